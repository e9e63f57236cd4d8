import Derived.Test.YtbimcammjohaoacUnL
namespace Go.Proofs.Ytbimcammjohaoac.fnExactUnion
open Go.ChangeShapes Go.WideShapes Go.ChangeAt Go.RowKit Go.Maps
set_option linter.unusedVariables false
set_option linter.unusedSimpArgs false

theorem call2 {P : Program} {ops : Array Oper} {Q : Exit → Act → World → Prop} {md : Region.Mode} {S : World → Prop} {i j : Nat} {d e : Option Tmp} {fuel : Nat} {listed : Array Bool} {a : Act} {w : World}
    (hd : ops[i]?.map (fun o => o.dst) = some d) (he : ops[j]?.map (fun o => o.dst) = some e) (hr : Region.ready md ops listed = [i, j])
    (h : ∀ o, ops[i]? = some o → o.dst = d → ∀ K' : Act → World → Prop, Shut (∀ a w, S w → (S w → wpAnyH P md ops Q S fuel (listed.setIfInBounds i true) a w) → K' a w) → if Region.wanted o (yielded ops a.tmps) = true then Oper.wp P o a w K' Q else K' (a.put o.dst undef) w)
    (h' : ∀ o, ops[j]? = some o → o.dst = e → ∀ K' : Act → World → Prop, Shut (∀ a w, S w → (S w → wpAnyH P md ops Q S fuel (listed.setIfInBounds j true) a w) → K' a w) → if Region.wanted o (yielded ops a.tmps) = true then Oper.wp P o a w K' Q else K' (a.put o.dst undef) w) :
    wpAnyH P md ops Q S (fuel + 1) listed a w := by
  obtain ⟨o, ho, hod⟩ := Option.map_eq_some_iff.1 hd
  obtain ⟨o', ho', hod'⟩ := Option.map_eq_some_iff.1 he
  exact wpAnyH_ready hr (by simp) (AllReadyH.cons ho (h o ho hod) (AllReadyH.cons ho' (h' o' ho' hod') AllReadyH.nil))

set_option maxRecDepth 100000 in
set_option maxHeartbeats 4000000 in
theorem walk (w : World) (a : Option Addr) (n c : Nat) (R F T : Nat → Int) (hn : n ≤ 9223372036854775807) (h : RSeg w a n R F T) (iR : I64 R) (iF : I64 F) (iT : I64 T) (a' : Option Addr) (n' c' : Nat) (R' F' T' : Nat → Int) (hn' : n' ≤ 9223372036854775807) (h' : RSeg w a' n' R' F' T') (iR' : I64 R') (iF' : I64 F') (iT' : I64 T') :
    Calls Try.prog 4 #[.agg #[.slice a n c], .agg #[.slice a' n' c']] w fun e w' => e = .returned (.bool true) ∧ Below w.heap.size w w' := by
  obtain ⟨W0, hW0⟩ : ∃ W0, (w.alloc (.cells #[.slice a n c] 37)).alloc (.cells #[.slice a' n' c'] 37) = W0 := ⟨_, rfl⟩
  have bW : Below w.heap.size w W0 := by rw [← hW0]; exact below2 _ _ _
  have xa : W0.cell? ⟨w.heap.size, 0, none⟩ = some (.slice a n c) := by rw [← hW0]; simp
  have xb : W0.cell? ⟨w.heap.size + 1, 0, none⟩ = some (.slice a' n' c') := by rw [← hW0]; simp
  have zW : W0.heap.size = w.heap.size + 2 := by rw [← hW0]; simp
  go_enter Try.func4, Try.ntmps4
  go_wp2_with fail
  try rw [hW0]
  clear hW0
  refine (szContext a n c 1048576 _ hn (by omega) (by omega)).mono ?_
  rintro e w1 ⟨rfl, b1⟩
  have z1 := b1.size
  have xa1 := (b1.cell (p := ⟨w.heap.size, 0, none⟩) (show w.heap.size < W0.heap.size by omega)).trans xa
  have xb1 := (b1.cell (p := ⟨w.heap.size + 1, 0, none⟩) (show w.heap.size + 1 < W0.heap.size by omega)).trans xb
  have B1 := keepS bW b1
  clear b1 xa xb bW
  by_cases hl : n ≤ 1048576
  case neg =>
    rw [show szLeft 1048576 n = -1 from if_pos (by omega)]
    have HB := hid B1
    clear B1
    go_wp2_with fail
    go_ret
    exact ⟨rfl, HB.out⟩
  rw [show szLeft 1048576 n = 1048576 - n from if_neg (by omega)]
  go_wp2_with fail
  refine (szContext a' n' c' (1048576 - n) _ hn' (by omega) (by omega)).mono ?_
  rintro e w2 ⟨rfl, b2⟩
  have z2 := b2.size
  have xa2 := (b2.cell (p := ⟨w.heap.size, 0, none⟩) (show w.heap.size < w1.heap.size by omega)).trans xa1
  have xb2 := (b2.cell (p := ⟨w.heap.size + 1, 0, none⟩) (show w.heap.size + 1 < w1.heap.size by omega)).trans xb1
  have B2 := keepS B1 b2
  clear b2 xa1 xb1 B1
  by_cases hl' : (n' : Int) ≤ 1048576 - n
  case neg =>
    rw [show szLeft (1048576 - n) n' = -1 from if_pos (by omega)]
    have HB := hid B2
    clear B2
    go_wp2_with fail
    go_ret
    exact ⟨rfl, HB.out⟩
  rw [show szLeft (1048576 - n) n' = 1048576 - n - n' from if_neg (by omega)]
  have hl2 : n' ≤ 1048576 := by omega
  have HB := hid B2
  have HH := hid h
  have HH' := hid h'
  have zc : w.heap.size < w2.heap.size := by omega
  have zd : w.heap.size + 1 < w2.heap.size := by omega
  obtain ⟨Z, hZ⟩ : ∃ Z, unZ R F T n R' F' T' n' = Z := ⟨_, rfl⟩
  obtain ⟨ok, hok⟩ : ∃ ok, unB R F T n R' F' T' n' = ok := ⟨_, rfl⟩
  have hZl : Z.length ≤ 1000 := by rw [← hZ]; exact unZ_len R F T n R' F' T' n'
  have HZ := hid hZ
  have HOK := hid hok
  clear B2 h h' hZ hok
  go_wp2_with fail
  refine wp_region_held_drew (S := fun w' => Below w2.heap.size w2 w' ∧ w'.cell? ⟨w.heap.size, 0, none⟩ = some (.slice a n c) ∧ w'.cell? ⟨w.heap.size + 1, 0, none⟩ = some (.slice a' n' c')) (by kernel_rfl) ⟨(Below.refl _ _).drew, xa2, xb2⟩ (fun hHeld => ?_)
  refine take1 (i := 0) (d := some 28) (v := ?_) (by kernel_rfl) (by kernel_rfl) (by kernel_rfl) (by kernel_rfl) (fun _ _ _ h => h) ?_ hHeld ?_
  rotate_left
  · (intro o ho; simp only [List.getElem?_toArray, List.getElem?_cons_succ, List.getElem?_cons_zero, Option.some.injEq] at ho; subst ho; refine Or.inl ⟨by rfl, ?_⟩; intro w hSw; (try dsimp only at hSw); go_simp; try with_reducible rfl)
  try simp only [Act.put, List.setIfInBounds_toArray, List.set_cons_zero, List.set_cons_succ]
  refine take1 (i := 2) (d := some 30) (v := ?_) (by kernel_rfl) (by kernel_rfl) (by kernel_rfl) (by kernel_rfl) (fun _ _ _ h => h) ?_ hHeld ?_
  rotate_left
  · (intro o ho; simp only [List.getElem?_toArray, List.getElem?_cons_succ, List.getElem?_cons_zero, Option.some.injEq] at ho; subst ho; refine Or.inl ⟨by rfl, ?_⟩; intro w hSw; (try dsimp only at hSw); go_simp; try with_reducible rfl)
  try simp only [Act.put, List.setIfInBounds_toArray, List.set_cons_zero, List.set_cons_succ]
  obtain ⟨p0, hq0⟩ : ∃ p0, w2.drew = p0 := ⟨_, rfl⟩
  rw [hq0] at hHeld ⊢
  clear hq0
  have hB0 := hHeld.1
  refine call2 (i := 1) (d := some 29) (j := 8) (e := some 6) (by kernel_rfl) (by kernel_rfl) (by kernel_rfl) ?_ ?_
  rotate_left
  focus
    skip
    intro o ho hod K hK; simp only [List.getElem?_toArray, List.getElem?_cons_succ, List.getElem?_cons_zero, Option.some.injEq] at ho; subst ho
    go_simp
    obtain ⟨px, hqx⟩ : ∃ px, p0.alloc (.cells #[.slice none 0 0] 41) = px := ⟨_, rfl⟩
    have hxb : Below p0.heap.size p0 px := by rw [← hqx]; exact (Below.refl _ _).alloc (Nat.le_refl _) _
    have hxc : px.cell? ⟨p0.heap.size, 0, none⟩ = some (.slice none 0 0) := by rw [← hqx]; simp
    have hxf : px.frozen? ⟨p0.heap.size, 0, none⟩ = false := by rw [← hqx]; simp
    have hxz : px.heap.size = p0.heap.size + 1 := by rw [← hqx]; simp
    obtain ⟨A6, hA6⟩ : ∃ A6, p0.heap.size = A6 := ⟨_, rfl⟩
    rw [hA6] at hxc hxf hxz ⊢
    rw [hqx]
    clear hqx
    have hBx := keepS hB0 hxb
    have hA0 : w2.heap.size ≤ A6 := by have := hB0.size; omega
    have hA6a : p0.heap.size ≤ A6 := by omega
    have hA6b : A6 ≤ p0.heap.size := by omega
    have hxbk := hid hxb
    clear hxb hA6
    refine hK.out _ _ ⟨hBx, (hBx.cell (p := ⟨w.heap.size, 0, none⟩) zc).trans xa2, (hBx.cell (p := ⟨w.heap.size + 1, 0, none⟩) zd).trans xb2⟩ (fun hHeld => ?_)
    clear hK K
    try simp only [Act.put, List.setIfInBounds_toArray, List.set_cons_zero, List.set_cons_succ]
    refine call1 (i := 1) (d := some 29) (by kernel_rfl) (by kernel_rfl) ?_
    intro o ho hod K hK; simp only [List.getElem?_toArray, List.getElem?_cons_succ, List.getElem?_cons_zero, Option.some.injEq] at ho; subst ho
    go_simp
    refine (toContext a n c R F T _ hl (HH.out.below (keepS HB.out hBx))).mono ?_
    rintro e p3 ⟨pg3, ph3, ph3', rfl, ps3, pb3⟩
    have z1 := pb3.size
    have hxc := (pb3.cell (p := ⟨A6, 0, none⟩) (show A6 < px.heap.size by omega)).trans hxc
    have hxf := (pb3.frozen (p := ⟨A6, 0, none⟩) (show A6 < px.heap.size by omega)).trans hxf
    have hB1 := keepS hBx pb3
    refine hK.out _ _ ⟨hB1, (hB1.cell (p := ⟨w.heap.size, 0, none⟩) zc).trans xa2, (hB1.cell (p := ⟨w.heap.size + 1, 0, none⟩) zd).trans xb2⟩ (fun hHeld => ?_)
    clear hK K
    try simp only [Act.put, List.setIfInBounds_toArray, List.set_cons_zero, List.set_cons_succ]
    refine call1 (i := 3) (d := some 31) (by kernel_rfl) (by kernel_rfl) ?_
    intro o ho hod K hK; simp only [List.getElem?_toArray, List.getElem?_cons_succ, List.getElem?_cons_zero, Option.some.injEq] at ho; subst ho
    go_simp
    refine (toContext a' n' c' R' F' T' _ hl2 (HH'.out.below (keepS HB.out hB1))).mono ?_
    rintro e p4 ⟨pg4, ph4, ph4', rfl, ps4, pb4⟩
    have ps34 := ps3.below pb4
    have z3 := pb4.size
    have hxc := (pb4.cell (p := ⟨A6, 0, none⟩) (show A6 < p3.heap.size by omega)).trans hxc
    have hxf := (pb4.frozen (p := ⟨A6, 0, none⟩) (show A6 < p3.heap.size by omega)).trans hxf
    have hB3 := keepS hB1 pb4
    refine hK.out _ _ ⟨hB3, (hB3.cell (p := ⟨w.heap.size, 0, none⟩) zc).trans xa2, (hB3.cell (p := ⟨w.heap.size + 1, 0, none⟩) zd).trans xb2⟩ (fun hHeld => ?_)
    clear hK K
    try simp only [Act.put, List.setIfInBounds_toArray, List.set_cons_zero, List.set_cons_succ]
    refine call1 (i := 4) (d := some 32) (by kernel_rfl) (by kernel_rfl) ?_
    intro o ho hod K hK; simp only [List.getElem?_toArray, List.getElem?_cons_succ, List.getElem?_cons_zero, Option.some.injEq] at ho; subst ho
    go_simp
    have hBn := hB3
    refine (specUn pg3 0 n n R F T _ n' n' R' F' T' _ hl hl2 ps34 ps4).mono ?_
    rintro e p5 ⟨pv, rfl, po5, pb5⟩
    rw [HZ.out] at po5
    rw [HOK.out]
    obtain ⟨py, pm, pc, pe⟩ := row_form po5
    subst pe
    have z4 := pb5.size
    have hxc := (pb5.cell (p := ⟨A6, 0, none⟩) (show A6 < p4.heap.size by omega)).trans hxc
    have hxf := (pb5.frozen (p := ⟨A6, 0, none⟩) (show A6 < p4.heap.size by omega)).trans hxf
    have hB4 := keepS hB3 pb5
    refine hK.out _ _ ⟨hB4, (hB4.cell (p := ⟨w.heap.size, 0, none⟩) zc).trans xa2, (hB4.cell (p := ⟨w.heap.size + 1, 0, none⟩) zd).trans xb2⟩ (fun hHeld => ?_)
    clear hK K
    try simp only [Act.put, List.setIfInBounds_toArray, List.set_cons_zero, List.set_cons_succ]
    refine take1 (i := 5) (d := some 27) (v := ?_) (by kernel_rfl) (by kernel_rfl) (by kernel_rfl) (by kernel_rfl) (fun _ _ _ h => h) ?_ hHeld ?_
    rotate_left
    · (intro o ho; simp only [List.getElem?_toArray, List.getElem?_cons_succ, List.getElem?_cons_zero, Option.some.injEq] at ho; subst ho; refine Or.inl ⟨by rfl, ?_⟩; intro w hSw; (try dsimp only at hSw); go_simp; try with_reducible rfl)
    try simp only [Act.put, List.setIfInBounds_toArray, List.set_cons_zero, List.set_cons_succ]
    refine take1 (i := 6) (d := some 33) (v := ?_) (by kernel_rfl) (by kernel_rfl) (by kernel_rfl) (by kernel_rfl) (fun _ _ _ h => h) ?_ hHeld ?_
    rotate_left
    · (intro o ho; simp only [List.getElem?_toArray, List.getElem?_cons_succ, List.getElem?_cons_zero, Option.some.injEq] at ho; subst ho; refine Or.inl ⟨by rfl, ?_⟩; intro w hSw; (try dsimp only at hSw); go_simp; try with_reducible rfl)
    try simp only [Act.put, List.setIfInBounds_toArray, List.set_cons_zero, List.set_cons_succ]
    refine take1 (i := 7) (d := some 34) (v := ?_) (by kernel_rfl) (by kernel_rfl) (by kernel_rfl) (by kernel_rfl) (fun _ _ _ h => h) ?_ hHeld ?_
    rotate_left
    · (intro o ho; simp only [List.getElem?_toArray, List.getElem?_cons_succ, List.getElem?_cons_zero, Option.some.injEq] at ho; subst ho; refine Or.inl ⟨by rfl, ?_⟩; intro w hSw; (try dsimp only at hSw); go_simp; try with_reducible rfl)
    try simp only [Act.put, List.setIfInBounds_toArray, List.set_cons_zero, List.set_cons_succ]
    refine call1 (i := 9) (d := none) (by kernel_rfl) (by kernel_rfl) ?_
    intro o ho hod K hK; simp only [List.getElem?_toArray, List.getElem?_cons_succ, List.getElem?_cons_zero, Option.some.injEq] at ho; subst ho
    go_simp
    obtain ⟨W6, hW6⟩ : ∃ W6, p5.setCell ⟨A6, 0, none⟩ (.slice py pm pc) = W6 := ⟨_, rfl⟩
    have hB7 : Below w2.heap.size w2 W6 := by rw [← hW6]; exact hB4.setCell (p := ⟨A6, 0, none⟩) hA0 _
    have hx7 : W6.cell? ⟨A6, 0, none⟩ = some (.slice py pm pc) := by rw [← hW6]; exact World.cell?_setCell_same _ _ _ hxc
    have hz7 : W6.heap.size = p5.heap.size := by rw [← hW6]; simp [World.setCell]
    have hF7 : FR W6 w2.heap.size (.slice py pm pc) Z := by rw [← hW6]; exact FR.weak (ownsRow_setCell_below po5 (a := ⟨A6, 0, none⟩) (by show A6 < _; omega) _) (by have := hB3.size; have := hBn.size; omega)
    rw [hW6]
    refine hK.out _ _ ⟨hB7, (hB7.cell (p := ⟨w.heap.size, 0, none⟩) zc).trans xa2, (hB7.cell (p := ⟨w.heap.size + 1, 0, none⟩) zd).trans xb2⟩ (fun hHeld => ?_)
    clear hK K
    try simp only [Act.put, List.setIfInBounds_toArray, List.set_cons_zero, List.set_cons_succ]
    refine take1 (i := 10) (d := some 7) (v := ?_) (by kernel_rfl) (by kernel_rfl) (by kernel_rfl) (by kernel_rfl) (fun _ _ _ h => h) ?_ hHeld ?_
    rotate_left
    · (intro o ho; simp only [List.getElem?_toArray, List.getElem?_cons_succ, List.getElem?_cons_zero, Option.some.injEq] at ho; subst ho; refine Or.inl ⟨by rfl, ?_⟩; intro w hSw; (try dsimp only at hSw); go_simp; try with_reducible rfl)
    try simp only [Act.put, List.setIfInBounds_toArray, List.set_cons_zero, List.set_cons_succ]
    refine wpAnyH_done (by kernel_rfl) ?_ _
    have hA1 : A6 < W6.heap.size := by omega
    have xa6 := (hB7.cell (p := ⟨w.heap.size, 0, none⟩) zc).trans xa2
    have xb6 := (hB7.cell (p := ⟨w.heap.size + 1, 0, none⟩) zd).trans xb2
    have HB6 := hid (keepS HB.out hB7)
    have HF6 := hid hF7
    have z6 := hB7.size
    have HVw : Hid (∀ g, (Value.slice py pm pc).ownBlock = some g → g < W6.heap.size) := fun g hg => (World.ownsRow.lt hF7 g hg).2
    clear hF7 hB7 xa2 xb2 HB
    try clear hHeld
    try clear hod
    try clear hW6
    try clear hxc
    try clear hxf
    try clear hB0
    try clear hB1
    try clear hB3
    try clear hB4
    try clear hBn
    try clear hBx
    try clear hB6
    try clear hxbk
    try clear ps3
    try clear ps34
    try clear ps4
    try clear po5
    try clear pb3
    try clear pb4
    try clear pb5
    try clear po6x
    try clear hz7
    try clear hA6a
    try clear hA6b
  rotate_left
  focus
    skip
    intro o ho hod K hK; simp only [List.getElem?_toArray, List.getElem?_cons_succ, List.getElem?_cons_zero, Option.some.injEq] at ho; subst ho
    go_simp
    refine (toContext a n c R F T _ hl (HH.out.below (keepS HB.out hB0))).mono ?_
    rintro e p3 ⟨pg3, ph3, ph3', rfl, ps3, pb3⟩
    have z1 := pb3.size
    have hB1 := keepS hB0 pb3
    refine hK.out _ _ ⟨hB1, (hB1.cell (p := ⟨w.heap.size, 0, none⟩) zc).trans xa2, (hB1.cell (p := ⟨w.heap.size + 1, 0, none⟩) zd).trans xb2⟩ (fun hHeld => ?_)
    clear hK K
    try simp only [Act.put, List.setIfInBounds_toArray, List.set_cons_zero, List.set_cons_succ]
    refine call2 (i := 3) (d := some 31) (j := 8) (e := some 6) (by kernel_rfl) (by kernel_rfl) (by kernel_rfl) ?_ ?_
    rotate_left
    focus
      skip
      intro o ho hod K hK; simp only [List.getElem?_toArray, List.getElem?_cons_succ, List.getElem?_cons_zero, Option.some.injEq] at ho; subst ho
      go_simp
      obtain ⟨px, hqx⟩ : ∃ px, p3.alloc (.cells #[.slice none 0 0] 41) = px := ⟨_, rfl⟩
      have hxb : Below p3.heap.size p3 px := by rw [← hqx]; exact (Below.refl _ _).alloc (Nat.le_refl _) _
      have hxc : px.cell? ⟨p3.heap.size, 0, none⟩ = some (.slice none 0 0) := by rw [← hqx]; simp
      have hxf : px.frozen? ⟨p3.heap.size, 0, none⟩ = false := by rw [← hqx]; simp
      have hxz : px.heap.size = p3.heap.size + 1 := by rw [← hqx]; simp
      obtain ⟨A6, hA6⟩ : ∃ A6, p3.heap.size = A6 := ⟨_, rfl⟩
      rw [hA6] at hxc hxf hxz ⊢
      rw [hqx]
      clear hqx
      have hBx := keepS hB1 hxb
      have ps3 := ps3.below hxb
      have hA0 : w2.heap.size ≤ A6 := by have := hB1.size; omega
      have hA6a : p3.heap.size ≤ A6 := by omega
      have hA6b : A6 ≤ p3.heap.size := by omega
      have hxbk := hid hxb
      clear hxb hA6
      refine hK.out _ _ ⟨hBx, (hBx.cell (p := ⟨w.heap.size, 0, none⟩) zc).trans xa2, (hBx.cell (p := ⟨w.heap.size + 1, 0, none⟩) zd).trans xb2⟩ (fun hHeld => ?_)
      clear hK K
      try simp only [Act.put, List.setIfInBounds_toArray, List.set_cons_zero, List.set_cons_succ]
      refine call1 (i := 3) (d := some 31) (by kernel_rfl) (by kernel_rfl) ?_
      intro o ho hod K hK; simp only [List.getElem?_toArray, List.getElem?_cons_succ, List.getElem?_cons_zero, Option.some.injEq] at ho; subst ho
      go_simp
      refine (toContext a' n' c' R' F' T' _ hl2 (HH'.out.below (keepS HB.out hBx))).mono ?_
      rintro e p4 ⟨pg4, ph4, ph4', rfl, ps4, pb4⟩
      have ps34 := ps3.below pb4
      have z3 := pb4.size
      have hxc := (pb4.cell (p := ⟨A6, 0, none⟩) (show A6 < px.heap.size by omega)).trans hxc
      have hxf := (pb4.frozen (p := ⟨A6, 0, none⟩) (show A6 < px.heap.size by omega)).trans hxf
      have hB3 := keepS hBx pb4
      refine hK.out _ _ ⟨hB3, (hB3.cell (p := ⟨w.heap.size, 0, none⟩) zc).trans xa2, (hB3.cell (p := ⟨w.heap.size + 1, 0, none⟩) zd).trans xb2⟩ (fun hHeld => ?_)
      clear hK K
      try simp only [Act.put, List.setIfInBounds_toArray, List.set_cons_zero, List.set_cons_succ]
      refine call1 (i := 4) (d := some 32) (by kernel_rfl) (by kernel_rfl) ?_
      intro o ho hod K hK; simp only [List.getElem?_toArray, List.getElem?_cons_succ, List.getElem?_cons_zero, Option.some.injEq] at ho; subst ho
      go_simp
      have hBn := hB3
      refine (specUn pg3 0 n n R F T _ n' n' R' F' T' _ hl hl2 ps34 ps4).mono ?_
      rintro e p5 ⟨pv, rfl, po5, pb5⟩
      rw [HZ.out] at po5
      rw [HOK.out]
      obtain ⟨py, pm, pc, pe⟩ := row_form po5
      subst pe
      have z4 := pb5.size
      have hxc := (pb5.cell (p := ⟨A6, 0, none⟩) (show A6 < p4.heap.size by omega)).trans hxc
      have hxf := (pb5.frozen (p := ⟨A6, 0, none⟩) (show A6 < p4.heap.size by omega)).trans hxf
      have hB4 := keepS hB3 pb5
      refine hK.out _ _ ⟨hB4, (hB4.cell (p := ⟨w.heap.size, 0, none⟩) zc).trans xa2, (hB4.cell (p := ⟨w.heap.size + 1, 0, none⟩) zd).trans xb2⟩ (fun hHeld => ?_)
      clear hK K
      try simp only [Act.put, List.setIfInBounds_toArray, List.set_cons_zero, List.set_cons_succ]
      refine take1 (i := 5) (d := some 27) (v := ?_) (by kernel_rfl) (by kernel_rfl) (by kernel_rfl) (by kernel_rfl) (fun _ _ _ h => h) ?_ hHeld ?_
      rotate_left
      · (intro o ho; simp only [List.getElem?_toArray, List.getElem?_cons_succ, List.getElem?_cons_zero, Option.some.injEq] at ho; subst ho; refine Or.inl ⟨by rfl, ?_⟩; intro w hSw; (try dsimp only at hSw); go_simp; try with_reducible rfl)
      try simp only [Act.put, List.setIfInBounds_toArray, List.set_cons_zero, List.set_cons_succ]
      refine take1 (i := 6) (d := some 33) (v := ?_) (by kernel_rfl) (by kernel_rfl) (by kernel_rfl) (by kernel_rfl) (fun _ _ _ h => h) ?_ hHeld ?_
      rotate_left
      · (intro o ho; simp only [List.getElem?_toArray, List.getElem?_cons_succ, List.getElem?_cons_zero, Option.some.injEq] at ho; subst ho; refine Or.inl ⟨by rfl, ?_⟩; intro w hSw; (try dsimp only at hSw); go_simp; try with_reducible rfl)
      try simp only [Act.put, List.setIfInBounds_toArray, List.set_cons_zero, List.set_cons_succ]
      refine take1 (i := 7) (d := some 34) (v := ?_) (by kernel_rfl) (by kernel_rfl) (by kernel_rfl) (by kernel_rfl) (fun _ _ _ h => h) ?_ hHeld ?_
      rotate_left
      · (intro o ho; simp only [List.getElem?_toArray, List.getElem?_cons_succ, List.getElem?_cons_zero, Option.some.injEq] at ho; subst ho; refine Or.inl ⟨by rfl, ?_⟩; intro w hSw; (try dsimp only at hSw); go_simp; try with_reducible rfl)
      try simp only [Act.put, List.setIfInBounds_toArray, List.set_cons_zero, List.set_cons_succ]
      refine call1 (i := 9) (d := none) (by kernel_rfl) (by kernel_rfl) ?_
      intro o ho hod K hK; simp only [List.getElem?_toArray, List.getElem?_cons_succ, List.getElem?_cons_zero, Option.some.injEq] at ho; subst ho
      go_simp
      obtain ⟨W6, hW6⟩ : ∃ W6, p5.setCell ⟨A6, 0, none⟩ (.slice py pm pc) = W6 := ⟨_, rfl⟩
      have hB7 : Below w2.heap.size w2 W6 := by rw [← hW6]; exact hB4.setCell (p := ⟨A6, 0, none⟩) hA0 _
      have hx7 : W6.cell? ⟨A6, 0, none⟩ = some (.slice py pm pc) := by rw [← hW6]; exact World.cell?_setCell_same _ _ _ hxc
      have hz7 : W6.heap.size = p5.heap.size := by rw [← hW6]; simp [World.setCell]
      have hF7 : FR W6 w2.heap.size (.slice py pm pc) Z := by rw [← hW6]; exact FR.weak (ownsRow_setCell_below po5 (a := ⟨A6, 0, none⟩) (by show A6 < _; omega) _) (by have := hB3.size; have := hBn.size; omega)
      rw [hW6]
      refine hK.out _ _ ⟨hB7, (hB7.cell (p := ⟨w.heap.size, 0, none⟩) zc).trans xa2, (hB7.cell (p := ⟨w.heap.size + 1, 0, none⟩) zd).trans xb2⟩ (fun hHeld => ?_)
      clear hK K
      try simp only [Act.put, List.setIfInBounds_toArray, List.set_cons_zero, List.set_cons_succ]
      refine take1 (i := 10) (d := some 7) (v := ?_) (by kernel_rfl) (by kernel_rfl) (by kernel_rfl) (by kernel_rfl) (fun _ _ _ h => h) ?_ hHeld ?_
      rotate_left
      · (intro o ho; simp only [List.getElem?_toArray, List.getElem?_cons_succ, List.getElem?_cons_zero, Option.some.injEq] at ho; subst ho; refine Or.inl ⟨by rfl, ?_⟩; intro w hSw; (try dsimp only at hSw); go_simp; try with_reducible rfl)
      try simp only [Act.put, List.setIfInBounds_toArray, List.set_cons_zero, List.set_cons_succ]
      refine wpAnyH_done (by kernel_rfl) ?_ _
      have hA1 : A6 < W6.heap.size := by omega
      have xa6 := (hB7.cell (p := ⟨w.heap.size, 0, none⟩) zc).trans xa2
      have xb6 := (hB7.cell (p := ⟨w.heap.size + 1, 0, none⟩) zd).trans xb2
      have HB6 := hid (keepS HB.out hB7)
      have HF6 := hid hF7
      have z6 := hB7.size
      have HVw : Hid (∀ g, (Value.slice py pm pc).ownBlock = some g → g < W6.heap.size) := fun g hg => (World.ownsRow.lt hF7 g hg).2
      clear hF7 hB7 xa2 xb2 HB
      try clear hHeld
      try clear hod
      try clear hW6
      try clear hxc
      try clear hxf
      try clear hB0
      try clear hB1
      try clear hB3
      try clear hB4
      try clear hBn
      try clear hBx
      try clear hB6
      try clear hxbk
      try clear ps3
      try clear ps34
      try clear ps4
      try clear po5
      try clear pb3
      try clear pb4
      try clear pb5
      try clear po6x
      try clear hz7
      try clear hA6a
      try clear hA6b
    rotate_left
    focus
      skip
      intro o ho hod K hK; simp only [List.getElem?_toArray, List.getElem?_cons_succ, List.getElem?_cons_zero, Option.some.injEq] at ho; subst ho
      go_simp
      refine (toContext a' n' c' R' F' T' _ hl2 (HH'.out.below (keepS HB.out hB1))).mono ?_
      rintro e p4 ⟨pg4, ph4, ph4', rfl, ps4, pb4⟩
      have ps34 := ps3.below pb4
      have z3 := pb4.size
      have hB3 := keepS hB1 pb4
      refine hK.out _ _ ⟨hB3, (hB3.cell (p := ⟨w.heap.size, 0, none⟩) zc).trans xa2, (hB3.cell (p := ⟨w.heap.size + 1, 0, none⟩) zd).trans xb2⟩ (fun hHeld => ?_)
      clear hK K
      try simp only [Act.put, List.setIfInBounds_toArray, List.set_cons_zero, List.set_cons_succ]
      refine call2 (i := 4) (d := some 32) (j := 8) (e := some 6) (by kernel_rfl) (by kernel_rfl) (by kernel_rfl) ?_ ?_
      rotate_left
      focus
        skip
        intro o ho hod K hK; simp only [List.getElem?_toArray, List.getElem?_cons_succ, List.getElem?_cons_zero, Option.some.injEq] at ho; subst ho
        go_simp
        obtain ⟨px, hqx⟩ : ∃ px, p4.alloc (.cells #[.slice none 0 0] 41) = px := ⟨_, rfl⟩
        have hxb : Below p4.heap.size p4 px := by rw [← hqx]; exact (Below.refl _ _).alloc (Nat.le_refl _) _
        have hxc : px.cell? ⟨p4.heap.size, 0, none⟩ = some (.slice none 0 0) := by rw [← hqx]; simp
        have hxf : px.frozen? ⟨p4.heap.size, 0, none⟩ = false := by rw [← hqx]; simp
        have hxz : px.heap.size = p4.heap.size + 1 := by rw [← hqx]; simp
        obtain ⟨A6, hA6⟩ : ∃ A6, p4.heap.size = A6 := ⟨_, rfl⟩
        rw [hA6] at hxc hxf hxz ⊢
        rw [hqx]
        clear hqx
        have hBx := keepS hB3 hxb
        have ps34 := ps34.below hxb
        have ps4 := ps4.below hxb
        have hA0 : w2.heap.size ≤ A6 := by have := hB3.size; omega
        have hA6a : p4.heap.size ≤ A6 := by omega
        have hA6b : A6 ≤ p4.heap.size := by omega
        have hxbk := hid hxb
        clear hxb hA6
        refine hK.out _ _ ⟨hBx, (hBx.cell (p := ⟨w.heap.size, 0, none⟩) zc).trans xa2, (hBx.cell (p := ⟨w.heap.size + 1, 0, none⟩) zd).trans xb2⟩ (fun hHeld => ?_)
        clear hK K
        try simp only [Act.put, List.setIfInBounds_toArray, List.set_cons_zero, List.set_cons_succ]
        refine call1 (i := 4) (d := some 32) (by kernel_rfl) (by kernel_rfl) ?_
        intro o ho hod K hK; simp only [List.getElem?_toArray, List.getElem?_cons_succ, List.getElem?_cons_zero, Option.some.injEq] at ho; subst ho
        go_simp
        have hBn := hBx
        refine (specUn pg3 0 n n R F T _ n' n' R' F' T' _ hl hl2 ps34 ps4).mono ?_
        rintro e p5 ⟨pv, rfl, po5, pb5⟩
        rw [HZ.out] at po5
        rw [HOK.out]
        obtain ⟨py, pm, pc, pe⟩ := row_form po5
        subst pe
        have z4 := pb5.size
        have hxc := (pb5.cell (p := ⟨A6, 0, none⟩) (show A6 < px.heap.size by omega)).trans hxc
        have hxf := (pb5.frozen (p := ⟨A6, 0, none⟩) (show A6 < px.heap.size by omega)).trans hxf
        have hB4 := keepS hBx pb5
        refine hK.out _ _ ⟨hB4, (hB4.cell (p := ⟨w.heap.size, 0, none⟩) zc).trans xa2, (hB4.cell (p := ⟨w.heap.size + 1, 0, none⟩) zd).trans xb2⟩ (fun hHeld => ?_)
        clear hK K
        try simp only [Act.put, List.setIfInBounds_toArray, List.set_cons_zero, List.set_cons_succ]
        refine take1 (i := 5) (d := some 27) (v := ?_) (by kernel_rfl) (by kernel_rfl) (by kernel_rfl) (by kernel_rfl) (fun _ _ _ h => h) ?_ hHeld ?_
        rotate_left
        · (intro o ho; simp only [List.getElem?_toArray, List.getElem?_cons_succ, List.getElem?_cons_zero, Option.some.injEq] at ho; subst ho; refine Or.inl ⟨by rfl, ?_⟩; intro w hSw; (try dsimp only at hSw); go_simp; try with_reducible rfl)
        try simp only [Act.put, List.setIfInBounds_toArray, List.set_cons_zero, List.set_cons_succ]
        refine take1 (i := 6) (d := some 33) (v := ?_) (by kernel_rfl) (by kernel_rfl) (by kernel_rfl) (by kernel_rfl) (fun _ _ _ h => h) ?_ hHeld ?_
        rotate_left
        · (intro o ho; simp only [List.getElem?_toArray, List.getElem?_cons_succ, List.getElem?_cons_zero, Option.some.injEq] at ho; subst ho; refine Or.inl ⟨by rfl, ?_⟩; intro w hSw; (try dsimp only at hSw); go_simp; try with_reducible rfl)
        try simp only [Act.put, List.setIfInBounds_toArray, List.set_cons_zero, List.set_cons_succ]
        refine take1 (i := 7) (d := some 34) (v := ?_) (by kernel_rfl) (by kernel_rfl) (by kernel_rfl) (by kernel_rfl) (fun _ _ _ h => h) ?_ hHeld ?_
        rotate_left
        · (intro o ho; simp only [List.getElem?_toArray, List.getElem?_cons_succ, List.getElem?_cons_zero, Option.some.injEq] at ho; subst ho; refine Or.inl ⟨by rfl, ?_⟩; intro w hSw; (try dsimp only at hSw); go_simp; try with_reducible rfl)
        try simp only [Act.put, List.setIfInBounds_toArray, List.set_cons_zero, List.set_cons_succ]
        refine call1 (i := 9) (d := none) (by kernel_rfl) (by kernel_rfl) ?_
        intro o ho hod K hK; simp only [List.getElem?_toArray, List.getElem?_cons_succ, List.getElem?_cons_zero, Option.some.injEq] at ho; subst ho
        go_simp
        obtain ⟨W6, hW6⟩ : ∃ W6, p5.setCell ⟨A6, 0, none⟩ (.slice py pm pc) = W6 := ⟨_, rfl⟩
        have hB7 : Below w2.heap.size w2 W6 := by rw [← hW6]; exact hB4.setCell (p := ⟨A6, 0, none⟩) hA0 _
        have hx7 : W6.cell? ⟨A6, 0, none⟩ = some (.slice py pm pc) := by rw [← hW6]; exact World.cell?_setCell_same _ _ _ hxc
        have hz7 : W6.heap.size = p5.heap.size := by rw [← hW6]; simp [World.setCell]
        have hF7 : FR W6 w2.heap.size (.slice py pm pc) Z := by rw [← hW6]; exact FR.weak (ownsRow_setCell_below po5 (a := ⟨A6, 0, none⟩) (by show A6 < _; omega) _) (by have := hB3.size; have := hBn.size; omega)
        rw [hW6]
        refine hK.out _ _ ⟨hB7, (hB7.cell (p := ⟨w.heap.size, 0, none⟩) zc).trans xa2, (hB7.cell (p := ⟨w.heap.size + 1, 0, none⟩) zd).trans xb2⟩ (fun hHeld => ?_)
        clear hK K
        try simp only [Act.put, List.setIfInBounds_toArray, List.set_cons_zero, List.set_cons_succ]
        refine take1 (i := 10) (d := some 7) (v := ?_) (by kernel_rfl) (by kernel_rfl) (by kernel_rfl) (by kernel_rfl) (fun _ _ _ h => h) ?_ hHeld ?_
        rotate_left
        · (intro o ho; simp only [List.getElem?_toArray, List.getElem?_cons_succ, List.getElem?_cons_zero, Option.some.injEq] at ho; subst ho; refine Or.inl ⟨by rfl, ?_⟩; intro w hSw; (try dsimp only at hSw); go_simp; try with_reducible rfl)
        try simp only [Act.put, List.setIfInBounds_toArray, List.set_cons_zero, List.set_cons_succ]
        refine wpAnyH_done (by kernel_rfl) ?_ _
        have hA1 : A6 < W6.heap.size := by omega
        have xa6 := (hB7.cell (p := ⟨w.heap.size, 0, none⟩) zc).trans xa2
        have xb6 := (hB7.cell (p := ⟨w.heap.size + 1, 0, none⟩) zd).trans xb2
        have HB6 := hid (keepS HB.out hB7)
        have HF6 := hid hF7
        have z6 := hB7.size
        have HVw : Hid (∀ g, (Value.slice py pm pc).ownBlock = some g → g < W6.heap.size) := fun g hg => (World.ownsRow.lt hF7 g hg).2
        clear hF7 hB7 xa2 xb2 HB
        try clear hHeld
        try clear hod
        try clear hW6
        try clear hxc
        try clear hxf
        try clear hB0
        try clear hB1
        try clear hB3
        try clear hB4
        try clear hBn
        try clear hBx
        try clear hB6
        try clear hxbk
        try clear ps3
        try clear ps34
        try clear ps4
        try clear po5
        try clear pb3
        try clear pb4
        try clear pb5
        try clear po6x
        try clear hz7
        try clear hA6a
        try clear hA6b
      rotate_left
      focus
        skip
        intro o ho hod K hK; simp only [List.getElem?_toArray, List.getElem?_cons_succ, List.getElem?_cons_zero, Option.some.injEq] at ho; subst ho
        go_simp
        have hBn := hB3
        refine (specUn pg3 0 n n R F T _ n' n' R' F' T' _ hl hl2 ps34 ps4).mono ?_
        rintro e p5 ⟨pv, rfl, po5, pb5⟩
        rw [HZ.out] at po5
        rw [HOK.out]
        obtain ⟨py, pm, pc, pe⟩ := row_form po5
        subst pe
        have z4 := pb5.size
        have hB4 := keepS hB3 pb5
        refine hK.out _ _ ⟨hB4, (hB4.cell (p := ⟨w.heap.size, 0, none⟩) zc).trans xa2, (hB4.cell (p := ⟨w.heap.size + 1, 0, none⟩) zd).trans xb2⟩ (fun hHeld => ?_)
        clear hK K
        try simp only [Act.put, List.setIfInBounds_toArray, List.set_cons_zero, List.set_cons_succ]
        refine take1 (i := 5) (d := some 27) (v := ?_) (by kernel_rfl) (by kernel_rfl) (by kernel_rfl) (by kernel_rfl) (fun _ _ _ h => h) ?_ hHeld ?_
        rotate_left
        · (intro o ho; simp only [List.getElem?_toArray, List.getElem?_cons_succ, List.getElem?_cons_zero, Option.some.injEq] at ho; subst ho; refine Or.inl ⟨by rfl, ?_⟩; intro w hSw; (try dsimp only at hSw); go_simp; try with_reducible rfl)
        try simp only [Act.put, List.setIfInBounds_toArray, List.set_cons_zero, List.set_cons_succ]
        refine take1 (i := 6) (d := some 33) (v := ?_) (by kernel_rfl) (by kernel_rfl) (by kernel_rfl) (by kernel_rfl) (fun _ _ _ h => h) ?_ hHeld ?_
        rotate_left
        · (intro o ho; simp only [List.getElem?_toArray, List.getElem?_cons_succ, List.getElem?_cons_zero, Option.some.injEq] at ho; subst ho; refine Or.inl ⟨by rfl, ?_⟩; intro w hSw; (try dsimp only at hSw); go_simp; try with_reducible rfl)
        try simp only [Act.put, List.setIfInBounds_toArray, List.set_cons_zero, List.set_cons_succ]
        refine take1 (i := 7) (d := some 34) (v := ?_) (by kernel_rfl) (by kernel_rfl) (by kernel_rfl) (by kernel_rfl) (fun _ _ _ h => h) ?_ hHeld ?_
        rotate_left
        · (intro o ho; simp only [List.getElem?_toArray, List.getElem?_cons_succ, List.getElem?_cons_zero, Option.some.injEq] at ho; subst ho; refine Or.inl ⟨by rfl, ?_⟩; intro w hSw; (try dsimp only at hSw); go_simp; try with_reducible rfl)
        try simp only [Act.put, List.setIfInBounds_toArray, List.set_cons_zero, List.set_cons_succ]
        refine call1 (i := 8) (d := some 6) (by kernel_rfl) (by kernel_rfl) ?_
        intro o ho hod K hK; simp only [List.getElem?_toArray, List.getElem?_cons_succ, List.getElem?_cons_zero, Option.some.injEq] at ho; subst ho
        go_simp
        obtain ⟨px, hqx⟩ : ∃ px, p5.alloc (.cells #[.slice none 0 0] 41) = px := ⟨_, rfl⟩
        have hxb : Below p5.heap.size p5 px := by rw [← hqx]; exact (Below.refl _ _).alloc (Nat.le_refl _) _
        have hxc : px.cell? ⟨p5.heap.size, 0, none⟩ = some (.slice none 0 0) := by rw [← hqx]; simp
        have hxf : px.frozen? ⟨p5.heap.size, 0, none⟩ = false := by rw [← hqx]; simp
        have hxz : px.heap.size = p5.heap.size + 1 := by rw [← hqx]; simp
        obtain ⟨A6, hA6⟩ : ∃ A6, p5.heap.size = A6 := ⟨_, rfl⟩
        rw [hA6] at hxc hxf hxz ⊢
        rw [hqx]
        clear hqx
        have hB6 := keepS hB4 hxb
        have hA0 : w2.heap.size ≤ A6 := by have := hB4.size; omega
        have hA6a : p5.heap.size ≤ A6 := by omega
        have hA6b : A6 ≤ p5.heap.size := by omega
        have hxbk := hid hxb
        clear hxb hA6
        refine hK.out _ _ ⟨hB6, (hB6.cell (p := ⟨w.heap.size, 0, none⟩) zc).trans xa2, (hB6.cell (p := ⟨w.heap.size + 1, 0, none⟩) zd).trans xb2⟩ (fun hHeld => ?_)
        clear hK K
        try simp only [Act.put, List.setIfInBounds_toArray, List.set_cons_zero, List.set_cons_succ]
        skip
        refine call1 (i := 9) (d := none) (by kernel_rfl) (by kernel_rfl) ?_
        intro o ho hod K hK; simp only [List.getElem?_toArray, List.getElem?_cons_succ, List.getElem?_cons_zero, Option.some.injEq] at ho; subst ho
        go_simp
        obtain ⟨W6, hW6⟩ : ∃ W6, px.setCell ⟨A6, 0, none⟩ (.slice py pm pc) = W6 := ⟨_, rfl⟩
        have hB7 : Below w2.heap.size w2 W6 := by rw [← hW6]; exact hB6.setCell (p := ⟨A6, 0, none⟩) hA0 _
        have hx7 : W6.cell? ⟨A6, 0, none⟩ = some (.slice py pm pc) := by rw [← hW6]; exact World.cell?_setCell_same _ _ _ hxc
        have hz7 : W6.heap.size = px.heap.size := by rw [← hW6]; simp [World.setCell]
        have hF7 : FR W6 w2.heap.size (.slice py pm pc) Z := by rw [← hW6]; exact FR.weak (FR.below po5 (hxbk.out.setCell (p := ⟨A6, 0, none⟩) hA6a _)) (by have := hB3.size; have := hBn.size; omega)
        rw [hW6]
        refine hK.out _ _ ⟨hB7, (hB7.cell (p := ⟨w.heap.size, 0, none⟩) zc).trans xa2, (hB7.cell (p := ⟨w.heap.size + 1, 0, none⟩) zd).trans xb2⟩ (fun hHeld => ?_)
        clear hK K
        try simp only [Act.put, List.setIfInBounds_toArray, List.set_cons_zero, List.set_cons_succ]
        refine take1 (i := 10) (d := some 7) (v := ?_) (by kernel_rfl) (by kernel_rfl) (by kernel_rfl) (by kernel_rfl) (fun _ _ _ h => h) ?_ hHeld ?_
        rotate_left
        · (intro o ho; simp only [List.getElem?_toArray, List.getElem?_cons_succ, List.getElem?_cons_zero, Option.some.injEq] at ho; subst ho; refine Or.inl ⟨by rfl, ?_⟩; intro w hSw; (try dsimp only at hSw); go_simp; try with_reducible rfl)
        try simp only [Act.put, List.setIfInBounds_toArray, List.set_cons_zero, List.set_cons_succ]
        refine wpAnyH_done (by kernel_rfl) ?_ _
        have hA1 : A6 < W6.heap.size := by omega
        have xa6 := (hB7.cell (p := ⟨w.heap.size, 0, none⟩) zc).trans xa2
        have xb6 := (hB7.cell (p := ⟨w.heap.size + 1, 0, none⟩) zd).trans xb2
        have HB6 := hid (keepS HB.out hB7)
        have HF6 := hid hF7
        have z6 := hB7.size
        have HVw : Hid (∀ g, (Value.slice py pm pc).ownBlock = some g → g < W6.heap.size) := fun g hg => (World.ownsRow.lt hF7 g hg).2
        clear hF7 hB7 xa2 xb2 HB
        try clear hHeld
        try clear hod
        try clear hW6
        try clear hxc
        try clear hxf
        try clear hB0
        try clear hB1
        try clear hB3
        try clear hB4
        try clear hBn
        try clear hBx
        try clear hB6
        try clear hxbk
        try clear ps3
        try clear ps34
        try clear ps4
        try clear po5
        try clear pb3
        try clear pb4
        try clear pb5
        try clear po6x
        try clear hz7
        try clear hA6a
        try clear hA6b
  all_goals
    go_wp2_with fail
    refine (toContextO a n c R F T _ hl (HH.out.below HB6.out)).mono ?_
    rintro e w7 ⟨g7, hg7, hg7', rfl, sg7, bg7, xsg7, og7⟩
    have HSx := hid sg7
    have HOx := hid og7
    clear sg7 og7
    have zz1 := bg7.size
    have xa6_1 := (bg7.cell (p := ⟨w.heap.size, 0, none⟩) (show w.heap.size < W6.heap.size by omega)).trans xa6
    have xb6_1 := (bg7.cell (p := ⟨w.heap.size + 1, 0, none⟩) (show w.heap.size + 1 < W6.heap.size by omega)).trans xb6
    have hx7_1 := (bg7.cell (p := ⟨A6, 0, none⟩) (show A6 < W6.heap.size by omega)).trans hx7
    have HF6_1 := hid (HF6.out.below bg7)
    have HB_1 := hid (keepS HB6.out bg7)
    clear xa6 xb6 hx7 HF6 HB6 bg7
    obtain ⟨W8, hW8⟩ : ∃ W8, w7.alloc (.cells #[.slice (some ⟨g7, 0, none⟩) n n] 41) = W8 := ⟨_, rfl⟩
    have bW8 : Below w7.heap.size w7 W8 := by rw [← hW8]; exact (Below.refl _ _).alloc (Nat.le_refl _) _
    have zW8 : W8.heap.size = w7.heap.size + 1 := by rw [← hW8]; simp
    have hbx : W8.cell? ⟨w7.heap.size, 0, none⟩ = some (.slice (some ⟨g7, 0, none⟩) n n) := by rw [← hW8]; simp
    have zz2 := bW8.size
    have xa6_2 := (bW8.cell (p := ⟨w.heap.size, 0, none⟩) (show w.heap.size < w7.heap.size by omega)).trans xa6_1
    have xb6_2 := (bW8.cell (p := ⟨w.heap.size + 1, 0, none⟩) (show w.heap.size + 1 < w7.heap.size by omega)).trans xb6_1
    have hx7_2 := (bW8.cell (p := ⟨A6, 0, none⟩) (show A6 < w7.heap.size by omega)).trans hx7_1
    have HSx_2 := hid (HSx.out.below bW8)
    have HF6_2 := hid (HF6_1.out.below bW8)
    have HOx_2 := hid (owns_below HOx.out bW8 (fun k hk => by simp [Value.ownBlock] at hk; omega))
    have HB_2 := hid (keepS HB_1.out bW8)
    clear xa6_1 xb6_1 hx7_1 HSx HF6_1 HOx HB_1 bW8
    go_wp2_with fail
    try rw [hW8]
    clear hW8
    skip
    refine (toContextO a' n' c' R' F' T' _ hl2 (HH'.out.below HB_2.out)).mono ?_
    rintro e w9 ⟨g9, hg9, hg9', rfl, sg9, bg9, xsg9, og9⟩
    have HSy := hid sg9
    have HOy := hid og9
    clear sg9 og9
    have zz3 := bg9.size
    have xa6_3 := (bg9.cell (p := ⟨w.heap.size, 0, none⟩) (show w.heap.size < W8.heap.size by omega)).trans xa6_2
    have xb6_3 := (bg9.cell (p := ⟨w.heap.size + 1, 0, none⟩) (show w.heap.size + 1 < W8.heap.size by omega)).trans xb6_2
    have hx7_3 := (bg9.cell (p := ⟨A6, 0, none⟩) (show A6 < W8.heap.size by omega)).trans hx7_2
    have hbx_3 := (bg9.cell (p := ⟨w7.heap.size, 0, none⟩) (show w7.heap.size < W8.heap.size by omega)).trans hbx
    have HSx_3 := hid (HSx_2.out.below bg9)
    have HF6_3 := hid (HF6_2.out.below bg9)
    have HOx_3 := hid (owns_below HOx_2.out bg9 (fun k hk => by simp [Value.ownBlock] at hk; omega))
    have HB_3 := hid (keepS HB_2.out bg9)
    clear xa6_2 xb6_2 hx7_2 hbx HSx_2 HF6_2 HOx_2 HB_2 bg9
    obtain ⟨W10, hW10⟩ : ∃ W10, w9.alloc (.cells #[.slice (some ⟨g9, 0, none⟩) n' n'] 41) = W10 := ⟨_, rfl⟩
    have bW10 : Below w9.heap.size w9 W10 := by rw [← hW10]; exact (Below.refl _ _).alloc (Nat.le_refl _) _
    have zW10 : W10.heap.size = w9.heap.size + 1 := by rw [← hW10]; simp
    have hby : W10.cell? ⟨w9.heap.size, 0, none⟩ = some (.slice (some ⟨g9, 0, none⟩) n' n') := by rw [← hW10]; simp
    have zz4 := bW10.size
    have xa6_4 := (bW10.cell (p := ⟨w.heap.size, 0, none⟩) (show w.heap.size < w9.heap.size by omega)).trans xa6_3
    have xb6_4 := (bW10.cell (p := ⟨w.heap.size + 1, 0, none⟩) (show w.heap.size + 1 < w9.heap.size by omega)).trans xb6_3
    have hx7_4 := (bW10.cell (p := ⟨A6, 0, none⟩) (show A6 < w9.heap.size by omega)).trans hx7_3
    have hbx_4 := (bW10.cell (p := ⟨w7.heap.size, 0, none⟩) (show w7.heap.size < w9.heap.size by omega)).trans hbx_3
    have HSx_4 := hid (HSx_3.out.below bW10)
    have HSy_4 := hid (HSy.out.below bW10)
    have HF6_4 := hid (HF6_3.out.below bW10)
    have HOx_4 := hid (owns_below HOx_3.out bW10 (fun k hk => by simp [Value.ownBlock] at hk; omega))
    have HOy_4 := hid (owns_below HOy.out bW10 (fun k hk => by simp [Value.ownBlock] at hk; omega))
    have HB_4 := hid (keepS HB_3.out bW10)
    clear xa6_3 xb6_3 hx7_3 hbx_3 HSx_3 HSy HF6_3 HOx_3 HOy HB_3 bW10
    go_wp2_with fail
    try rw [hW10]
    clear hW10
    refine (implUn _ n n R F T _ n' n' R' F' T' _ hl hl2 HSx_4.out HSy_4.out).mono ?_
    rintro e w11 ⟨v11, rfl, o11, b11⟩
    rw [HZ.out] at o11
    rw [HOK.out]
    obtain ⟨y1, m1, c1, e1⟩ := row_form o11
    subst e1
    have HFg := hid o11
    have HVg : Hid (∀ g, (Value.slice y1 m1 c1).ownBlock = some g → W10.heap.size ≤ g ∧ g < w11.heap.size) := fun g hg => World.ownsRow.lt o11 g hg
    clear o11
    have zz5 := b11.size
    have xa6_5 := (b11.cell (p := ⟨w.heap.size, 0, none⟩) (show w.heap.size < W10.heap.size by omega)).trans xa6_4
    have xb6_5 := (b11.cell (p := ⟨w.heap.size + 1, 0, none⟩) (show w.heap.size + 1 < W10.heap.size by omega)).trans xb6_4
    have hx7_5 := (b11.cell (p := ⟨A6, 0, none⟩) (show A6 < W10.heap.size by omega)).trans hx7_4
    have hbx_5 := (b11.cell (p := ⟨w7.heap.size, 0, none⟩) (show w7.heap.size < W10.heap.size by omega)).trans hbx_4
    have hby_5 := (b11.cell (p := ⟨w9.heap.size, 0, none⟩) (show w9.heap.size < W10.heap.size by omega)).trans hby
    have HSx_5 := hid (HSx_4.out.below b11)
    have HSy_5 := hid (HSy_4.out.below b11)
    have HF6_5 := hid (HF6_4.out.below b11)
    have HOx_5 := hid (owns_below HOx_4.out b11 (fun k hk => by simp [Value.ownBlock] at hk; omega))
    have HOy_5 := hid (owns_below HOy_4.out b11 (fun k hk => by simp [Value.ownBlock] at hk; omega))
    have HB_5 := hid (keepS HB_4.out b11)
    clear xa6_4 xb6_4 hx7_4 hbx_4 hby HSx_4 HSy_4 HF6_4 HOx_4 HOy_4 HB_4 b11
    obtain ⟨W12, hW12⟩ : ∃ W12, w11.alloc (.cells #[.slice y1 m1 c1] 41) = W12 := ⟨_, rfl⟩
    have bW12 : Below w11.heap.size w11 W12 := by rw [← hW12]; exact (Below.refl _ _).alloc (Nat.le_refl _) _
    have zW12 : W12.heap.size = w11.heap.size + 1 := by rw [← hW12]; simp
    have hbg : W12.cell? ⟨w11.heap.size, 0, none⟩ = some (.slice y1 m1 c1) := by rw [← hW12]; simp
    have zz6 := bW12.size
    have xa6_6 := (bW12.cell (p := ⟨w.heap.size, 0, none⟩) (show w.heap.size < w11.heap.size by omega)).trans xa6_5
    have xb6_6 := (bW12.cell (p := ⟨w.heap.size + 1, 0, none⟩) (show w.heap.size + 1 < w11.heap.size by omega)).trans xb6_5
    have hx7_6 := (bW12.cell (p := ⟨A6, 0, none⟩) (show A6 < w11.heap.size by omega)).trans hx7_5
    have hbx_6 := (bW12.cell (p := ⟨w7.heap.size, 0, none⟩) (show w7.heap.size < w11.heap.size by omega)).trans hbx_5
    have hby_6 := (bW12.cell (p := ⟨w9.heap.size, 0, none⟩) (show w9.heap.size < w11.heap.size by omega)).trans hby_5
    have HSx_6 := hid (HSx_5.out.below bW12)
    have HSy_6 := hid (HSy_5.out.below bW12)
    have HF6_6 := hid (HF6_5.out.below bW12)
    have HFg_6 := hid (HFg.out.below bW12)
    have HOx_6 := hid (owns_below HOx_5.out bW12 (fun k hk => by simp [Value.ownBlock] at hk; omega))
    have HOy_6 := hid (owns_below HOy_5.out bW12 (fun k hk => by simp [Value.ownBlock] at hk; omega))
    have HB_6 := hid (keepS HB_5.out bW12)
    clear xa6_5 xb6_5 hx7_5 hbx_5 hby_5 HSx_5 HSy_5 HF6_5 HFg HOx_5 HOy_5 HB_5 bW12
    go_wp2_with fail
    try rw [hW12]
    clear hW12
    refine (eqFR HFg_6.out HF6_6.out (by omega)).mono ?_
    rintro e w13 ⟨rfl, b13⟩
    have zz7 := b13.size
    have xa6_7 := (b13.cell (p := ⟨w.heap.size, 0, none⟩) (show w.heap.size < W12.heap.size by omega)).trans xa6_6
    have xb6_7 := (b13.cell (p := ⟨w.heap.size + 1, 0, none⟩) (show w.heap.size + 1 < W12.heap.size by omega)).trans xb6_6
    have hx7_7 := (b13.cell (p := ⟨A6, 0, none⟩) (show A6 < W12.heap.size by omega)).trans hx7_6
    have hbx_7 := (b13.cell (p := ⟨w7.heap.size, 0, none⟩) (show w7.heap.size < W12.heap.size by omega)).trans hbx_6
    have hby_7 := (b13.cell (p := ⟨w9.heap.size, 0, none⟩) (show w9.heap.size < W12.heap.size by omega)).trans hby_6
    have hbg_7 := (b13.cell (p := ⟨w11.heap.size, 0, none⟩) (show w11.heap.size < W12.heap.size by omega)).trans hbg
    have HSx_7 := hid (HSx_6.out.below b13)
    have HSy_7 := hid (HSy_6.out.below b13)
    have HF6_7 := hid (HF6_6.out.below b13)
    have HFg_7 := hid (HFg_6.out.below b13)
    have HOx_7 := hid (owns_below HOx_6.out b13 (fun k hk => by simp [Value.ownBlock] at hk; omega))
    have HOy_7 := hid (owns_below HOy_6.out b13 (fun k hk => by simp [Value.ownBlock] at hk; omega))
    have HB_7 := hid (keepS HB_6.out b13)
    clear xa6_6 xb6_6 hx7_6 hbx_6 hby_6 hbg HSx_6 HSy_6 HF6_6 HFg_6 HOx_6 HOy_6 HB_6 b13
    go_wp2_with fail
    have rzx : w7.heap.size < w13.heap.size := by omega
    have rza : w.heap.size < w13.heap.size := by omega
    refine wp_region_held_drew (S := fun w' => Below w13.heap.size w13 w' ∧ w'.cell? ⟨w7.heap.size, 0, none⟩ = some (.slice (some ⟨g7, 0, none⟩) n n) ∧ w'.cell? ⟨w.heap.size, 0, none⟩ = some (.slice a n c)) (by kernel_rfl) ⟨(Below.refl _ _).drew, hbx_7, xa6_7⟩ (fun hHeld => ?_)
    refine take1 (i := 0) (d := some 54) (v := ?_) (by kernel_rfl) (by kernel_rfl) (by kernel_rfl) (by kernel_rfl) (fun _ _ _ h => h) ?_ hHeld ?_
    rotate_left
    · (intro o ho; simp only [List.getElem?_toArray, List.getElem?_cons_succ, List.getElem?_cons_zero, Option.some.injEq] at ho; subst ho; refine Or.inl ⟨by rfl, ?_⟩; intro w hSw; (try dsimp only at hSw); go_simp; try with_reducible rfl)
    try simp only [Act.put, List.setIfInBounds_toArray, List.set_cons_zero, List.set_cons_succ]
    refine take1 (i := 1) (d := some 55) (v := ?_) (by kernel_rfl) (by kernel_rfl) (by kernel_rfl) (by kernel_rfl) (fun _ _ _ h => h) ?_ hHeld ?_
    rotate_left
    · (intro o ho; simp only [List.getElem?_toArray, List.getElem?_cons_succ, List.getElem?_cons_zero, Option.some.injEq] at ho; subst ho; refine Or.inl ⟨by rfl, ?_⟩; intro w hSw; (try dsimp only at hSw); go_simp; try with_reducible rfl)
    try simp only [Act.put, List.setIfInBounds_toArray, List.set_cons_zero, List.set_cons_succ]
    refine call1 (i := 2) (d := some 56) (by kernel_rfl) (by kernel_rfl) ?_
    intro o ho hod K hK; simp only [List.getElem?_toArray, List.getElem?_cons_succ, List.getElem?_cons_zero, Option.some.injEq] at ho; subst ho
    go_simp
    refine (toContext a n c R F T _ hl (HH.out.below (keepS HB_7.out hHeld.1))).mono ?_
    rintro e ra ⟨rg, rh, rh', rfl, rs, rb⟩
    have hB := keepS hHeld.1 rb
    refine hK.out _ _ ⟨hB, (hB.cell (p := ⟨w7.heap.size, 0, none⟩) rzx).trans hbx_7, (hB.cell (p := ⟨w.heap.size, 0, none⟩) rza).trans xa6_7⟩ (fun hHeld => ?_)
    clear hK K
    try simp only [Act.put, List.setIfInBounds_toArray, List.set_cons_zero, List.set_cons_succ]
    refine call1 (i := 3) (d := some 57) (by kernel_rfl) (by kernel_rfl) ?_
    intro o ho hod K hK; simp only [List.getElem?_toArray, List.getElem?_cons_succ, List.getElem?_cons_zero, Option.some.injEq] at ho; subst ho
    go_simp
    refine (eqContext _ _ n n n R F T _ hl (HSx_7.out.below hB) rs).mono ?_
    rintro e rw ⟨rfl, rbb⟩
    have hB8 := keepS hB rbb
    refine hK.out _ _ ⟨hB8, (hB8.cell (p := ⟨w7.heap.size, 0, none⟩) rzx).trans hbx_7, (hB8.cell (p := ⟨w.heap.size, 0, none⟩) rza).trans xa6_7⟩ (fun hHeld => ?_)
    clear hK K
    try simp only [Act.put, List.setIfInBounds_toArray, List.set_cons_zero, List.set_cons_succ]
    refine take1 (i := 4) (d := some 58) (v := ?_) (by kernel_rfl) (by kernel_rfl) (by kernel_rfl) (by kernel_rfl) (fun _ _ _ h => h) ?_ hHeld ?_
    rotate_left
    · (intro o ho; simp only [List.getElem?_toArray, List.getElem?_cons_succ, List.getElem?_cons_zero, Option.some.injEq] at ho; subst ho; refine Or.inl ⟨by rfl, ?_⟩; intro w hSw; (try dsimp only at hSw); go_simp; try with_reducible rfl)
    try simp only [Act.put, List.setIfInBounds_toArray, List.set_cons_zero, List.set_cons_succ]
    refine wpAnyH_done (by kernel_rfl) ?_ _
    clear hHeld hB rb rbb rs rh rh'
    have zz8 := hB8.size
    have xa6_8 := (hB8.cell (p := ⟨w.heap.size, 0, none⟩) (show w.heap.size < w13.heap.size by omega)).trans xa6_7
    have xb6_8 := (hB8.cell (p := ⟨w.heap.size + 1, 0, none⟩) (show w.heap.size + 1 < w13.heap.size by omega)).trans xb6_7
    have hx7_8 := (hB8.cell (p := ⟨A6, 0, none⟩) (show A6 < w13.heap.size by omega)).trans hx7_7
    have hbx_8 := (hB8.cell (p := ⟨w7.heap.size, 0, none⟩) (show w7.heap.size < w13.heap.size by omega)).trans hbx_7
    have hby_8 := (hB8.cell (p := ⟨w9.heap.size, 0, none⟩) (show w9.heap.size < w13.heap.size by omega)).trans hby_7
    have hbg_8 := (hB8.cell (p := ⟨w11.heap.size, 0, none⟩) (show w11.heap.size < w13.heap.size by omega)).trans hbg_7
    have HSx_8 := hid (HSx_7.out.below hB8)
    have HSy_8 := hid (HSy_7.out.below hB8)
    have HF6_8 := hid (HF6_7.out.below hB8)
    have HFg_8 := hid (HFg_7.out.below hB8)
    have HOx_8 := hid (owns_below HOx_7.out hB8 (fun k hk => by simp [Value.ownBlock] at hk; omega))
    have HOy_8 := hid (owns_below HOy_7.out hB8 (fun k hk => by simp [Value.ownBlock] at hk; omega))
    have HB_8 := hid (keepS HB_7.out hB8)
    clear xa6_7 xb6_7 hx7_7 hbx_7 hby_7 hbg_7 HSx_7 HSy_7 HF6_7 HFg_7 HOx_7 HOy_7 HB_7 hB8
    go_wp2_with fail
    have szx : w9.heap.size < rw.heap.size := by omega
    have sza : w.heap.size + 1 < rw.heap.size := by omega
    refine wp_region_held_drew (S := fun w' => Below rw.heap.size rw w' ∧ w'.cell? ⟨w9.heap.size, 0, none⟩ = some (.slice (some ⟨g9, 0, none⟩) n' n') ∧ w'.cell? ⟨w.heap.size + 1, 0, none⟩ = some (.slice a' n' c')) (by kernel_rfl) ⟨(Below.refl _ _).drew, hby_8, xb6_8⟩ (fun hHeld => ?_)
    refine take1 (i := 0) (d := some 59) (v := ?_) (by kernel_rfl) (by kernel_rfl) (by kernel_rfl) (by kernel_rfl) (fun _ _ _ h => h) ?_ hHeld ?_
    rotate_left
    · (intro o ho; simp only [List.getElem?_toArray, List.getElem?_cons_succ, List.getElem?_cons_zero, Option.some.injEq] at ho; subst ho; refine Or.inl ⟨by rfl, ?_⟩; intro w hSw; (try dsimp only at hSw); go_simp; try with_reducible rfl)
    try simp only [Act.put, List.setIfInBounds_toArray, List.set_cons_zero, List.set_cons_succ]
    refine take1 (i := 1) (d := some 60) (v := ?_) (by kernel_rfl) (by kernel_rfl) (by kernel_rfl) (by kernel_rfl) (fun _ _ _ h => h) ?_ hHeld ?_
    rotate_left
    · (intro o ho; simp only [List.getElem?_toArray, List.getElem?_cons_succ, List.getElem?_cons_zero, Option.some.injEq] at ho; subst ho; refine Or.inl ⟨by rfl, ?_⟩; intro w hSw; (try dsimp only at hSw); go_simp; try with_reducible rfl)
    try simp only [Act.put, List.setIfInBounds_toArray, List.set_cons_zero, List.set_cons_succ]
    refine call1 (i := 2) (d := some 61) (by kernel_rfl) (by kernel_rfl) ?_
    intro o ho hod K hK; simp only [List.getElem?_toArray, List.getElem?_cons_succ, List.getElem?_cons_zero, Option.some.injEq] at ho; subst ho
    go_simp
    refine (toContext a' n' c' R' F' T' _ hl2 (HH'.out.below (keepS HB_8.out hHeld.1))).mono ?_
    rintro e sa ⟨sg, sh, sh', rfl, ss, sb⟩
    have hB := keepS hHeld.1 sb
    refine hK.out _ _ ⟨hB, (hB.cell (p := ⟨w9.heap.size, 0, none⟩) szx).trans hby_8, (hB.cell (p := ⟨w.heap.size + 1, 0, none⟩) sza).trans xb6_8⟩ (fun hHeld => ?_)
    clear hK K
    try simp only [Act.put, List.setIfInBounds_toArray, List.set_cons_zero, List.set_cons_succ]
    refine call1 (i := 3) (d := some 62) (by kernel_rfl) (by kernel_rfl) ?_
    intro o ho hod K hK; simp only [List.getElem?_toArray, List.getElem?_cons_succ, List.getElem?_cons_zero, Option.some.injEq] at ho; subst ho
    go_simp
    refine (eqContext _ _ n' n' n' R' F' T' _ hl2 (HSy_8.out.below hB) ss).mono ?_
    rintro e sw ⟨rfl, sbb⟩
    have hB8 := keepS hB sbb
    refine hK.out _ _ ⟨hB8, (hB8.cell (p := ⟨w9.heap.size, 0, none⟩) szx).trans hby_8, (hB8.cell (p := ⟨w.heap.size + 1, 0, none⟩) sza).trans xb6_8⟩ (fun hHeld => ?_)
    clear hK K
    try simp only [Act.put, List.setIfInBounds_toArray, List.set_cons_zero, List.set_cons_succ]
    refine take1 (i := 4) (d := some 63) (v := ?_) (by kernel_rfl) (by kernel_rfl) (by kernel_rfl) (by kernel_rfl) (fun _ _ _ h => h) ?_ hHeld ?_
    rotate_left
    · (intro o ho; simp only [List.getElem?_toArray, List.getElem?_cons_succ, List.getElem?_cons_zero, Option.some.injEq] at ho; subst ho; refine Or.inl ⟨by rfl, ?_⟩; intro w hSw; (try dsimp only at hSw); go_simp; try with_reducible rfl)
    try simp only [Act.put, List.setIfInBounds_toArray, List.set_cons_zero, List.set_cons_succ]
    refine wpAnyH_done (by kernel_rfl) ?_ _
    clear hHeld hB sb sbb ss sh sh'
    have zz9 := hB8.size
    have xa6_9 := (hB8.cell (p := ⟨w.heap.size, 0, none⟩) (show w.heap.size < rw.heap.size by omega)).trans xa6_8
    have xb6_9 := (hB8.cell (p := ⟨w.heap.size + 1, 0, none⟩) (show w.heap.size + 1 < rw.heap.size by omega)).trans xb6_8
    have hx7_9 := (hB8.cell (p := ⟨A6, 0, none⟩) (show A6 < rw.heap.size by omega)).trans hx7_8
    have hbx_9 := (hB8.cell (p := ⟨w7.heap.size, 0, none⟩) (show w7.heap.size < rw.heap.size by omega)).trans hbx_8
    have hby_9 := (hB8.cell (p := ⟨w9.heap.size, 0, none⟩) (show w9.heap.size < rw.heap.size by omega)).trans hby_8
    have hbg_9 := (hB8.cell (p := ⟨w11.heap.size, 0, none⟩) (show w11.heap.size < rw.heap.size by omega)).trans hbg_8
    have HSx_9 := hid (HSx_8.out.below hB8)
    have HSy_9 := hid (HSy_8.out.below hB8)
    have HF6_9 := hid (HF6_8.out.below hB8)
    have HFg_9 := hid (HFg_8.out.below hB8)
    have HOx_9 := hid (owns_below HOx_8.out hB8 (fun k hk => by simp [Value.ownBlock] at hk; omega))
    have HOy_9 := hid (owns_below HOy_8.out hB8 (fun k hk => by simp [Value.ownBlock] at hk; omega))
    have HB_9 := hid (keepS HB_8.out hB8)
    clear xa6_8 xb6_8 hx7_8 hbx_8 hby_8 hbg_8 HSx_8 HSy_8 HF6_8 HFg_8 HOx_8 HOy_8 HB_8 hB8
    go_wp2_with fail
    refine (markContext W6.heap.size g7 n n 1 xsg7 sw (by omega) (by omega) (by omega) HOx_9.out).mono ?_
    rintro e w18 ⟨rfl, b18, _, z18, o18⟩
    have gr18 := grownR b18 z18 o18
    clear b18 z18 o18
    have zz10 := gr18.size
    have xa6_10 := gr18.cell xa6_9 (by simp; omega)
    have xb6_10 := gr18.cell xb6_9 (by simp; omega)
    have hx7_10 := gr18.cell hx7_9 (by simp; omega)
    have hbx_10 := gr18.cell hbx_9 (by simp; omega)
    have hby_10 := gr18.cell hby_9 (by simp; omega)
    have hbg_10 := gr18.cell hbg_9 (by simp; omega)
    have HF6_10 := hid (HF6_9.out.gr gr18 (fun g hg e => by injection e with e; have := HVw.out g hg; omega))
    have HFg_10 := hid (HFg_9.out.gr gr18 (fun g hg e => by injection e with e; have := HVg.out g hg; omega))
    have HOy_10 := hid (World.ownsRow.kept HOy_9.out gr18 (.inr (by simp [Value.ownBlock]; omega)))
    have HB_10 := hid ((HB_9.out).grown gr18 (by omega) (fun k hk => by injection hk with hk; omega))
    clear xa6_9 xb6_9 hx7_9 hbx_9 hby_9 hbg_9 HF6_9 HFg_9 HOx_9 HOy_9 HB_9 gr18
    clear HSx_9
    clear HSy_9
    go_wp2_with fail
    refine (markContext W8.heap.size g9 n' n' (1 + 3 * n) xsg9 w18 (by omega) (by omega) (by omega) HOy_10.out).mono ?_
    rintro e w19 ⟨rfl, b19, _, z19, o19⟩
    have gr19 := grownR b19 z19 o19
    clear b19 z19 o19
    have zz11 := gr19.size
    have xa6_11 := gr19.cell xa6_10 (by simp; omega)
    have xb6_11 := gr19.cell xb6_10 (by simp; omega)
    have hx7_11 := gr19.cell hx7_10 (by simp; omega)
    have hbx_11 := gr19.cell hbx_10 (by simp; omega)
    have hby_11 := gr19.cell hby_10 (by simp; omega)
    have hbg_11 := gr19.cell hbg_10 (by simp; omega)
    have HF6_11 := hid (HF6_10.out.gr gr19 (fun g hg e => by injection e with e; have := HVw.out g hg; omega))
    have HFg_11 := hid (HFg_10.out.gr gr19 (fun g hg e => by injection e with e; have := HVg.out g hg; omega))
    have HB_11 := hid ((HB_10.out).grown gr19 (by omega) (fun k hk => by injection hk with hk; omega))
    clear xa6_10 xb6_10 hx7_10 hbx_10 hby_10 hbg_10 HF6_10 HFg_10 HOy_10 HB_10 gr19
    go_wp2_with fail
    refine (eqFR HFg_11.out HF6_11.out (by omega)).mono ?_
    rintro e w20 ⟨rfl, b20⟩
    have zz12 := b20.size
    have xa6_12 := (b20.cell (p := ⟨w.heap.size, 0, none⟩) (show w.heap.size < w19.heap.size by omega)).trans xa6_11
    have xb6_12 := (b20.cell (p := ⟨w.heap.size + 1, 0, none⟩) (show w.heap.size + 1 < w19.heap.size by omega)).trans xb6_11
    have hx7_12 := (b20.cell (p := ⟨A6, 0, none⟩) (show A6 < w19.heap.size by omega)).trans hx7_11
    have hbx_12 := (b20.cell (p := ⟨w7.heap.size, 0, none⟩) (show w7.heap.size < w19.heap.size by omega)).trans hbx_11
    have hby_12 := (b20.cell (p := ⟨w9.heap.size, 0, none⟩) (show w9.heap.size < w19.heap.size by omega)).trans hby_11
    have hbg_12 := (b20.cell (p := ⟨w11.heap.size, 0, none⟩) (show w11.heap.size < w19.heap.size by omega)).trans hbg_11
    have HF6_12 := hid (HF6_11.out.below b20)
    have HFg_12 := hid (HFg_11.out.below b20)
    have HB_12 := hid (keepS HB_11.out b20)
    clear xa6_11 xb6_11 hx7_11 hbx_11 hby_11 hbg_11 HF6_11 HFg_11 HB_11 b20
    go_wp2_with fail
    refine (markFR HFg_12.out (by omega) hZl 1 (by omega)).mono ?_
    rintro e w21 ⟨rfl, g21, a21, c21, e21, s21⟩
    have HS21 := hid s21
    have HE21 := hid e21
    clear s21 e21
    have zz13 := g21.size
    have xa6_13 := g21.cell xa6_12 (fun e => by have := HVg.out _ e.symm; dsimp only at this; omega)
    have xb6_13 := g21.cell xb6_12 (fun e => by have := HVg.out _ e.symm; dsimp only at this; omega)
    have hx7_13 := g21.cell hx7_12 (fun e => by have := HVg.out _ e.symm; dsimp only at this; omega)
    have hbx_13 := g21.cell hbx_12 (fun e => by have := HVg.out _ e.symm; dsimp only at this; omega)
    have hby_13 := g21.cell hby_12 (fun e => by have := HVg.out _ e.symm; dsimp only at this; omega)
    have hbg_13 := g21.cell hbg_12 (fun e => by have := HVg.out _ e.symm; dsimp only at this; omega)
    have HF6_13 := hid (HF6_12.out.gr g21 (fun g hg e => by have h1 := HVg.out g e.symm; have h2 := HVw.out g hg; omega))
    have HB_13 := hid ((HB_12.out).grown g21 (by omega) (fun k hk => by have := HVg.out k hk; omega))
    clear xa6_12 xb6_12 hx7_12 hbx_12 hby_12 hbg_12 HF6_12 HFg_12 HB_12 g21
    go_wp2_with fail
    have e21 := HE21.out
    injection e21 with e1 e2 e3
    subst e1 e2 e3
    refine (heldContext _ _ _ 1 w21 (by omega) (by omega) HS21.out).mono ?_
    rintro e w22 ⟨rfl, b22⟩
    clear HS21 HE21 HVg
    have zz14 := b22.size
    have xa6_14 := (b22.cell (p := ⟨w.heap.size, 0, none⟩) (show w.heap.size < w21.heap.size by omega)).trans xa6_13
    have xb6_14 := (b22.cell (p := ⟨w.heap.size + 1, 0, none⟩) (show w.heap.size + 1 < w21.heap.size by omega)).trans xb6_13
    have hx7_14 := (b22.cell (p := ⟨A6, 0, none⟩) (show A6 < w21.heap.size by omega)).trans hx7_13
    have hbx_14 := (b22.cell (p := ⟨w7.heap.size, 0, none⟩) (show w7.heap.size < w21.heap.size by omega)).trans hbx_13
    have hby_14 := (b22.cell (p := ⟨w9.heap.size, 0, none⟩) (show w9.heap.size < w21.heap.size by omega)).trans hby_13
    have hbg_14 := (b22.cell (p := ⟨w11.heap.size, 0, none⟩) (show w11.heap.size < w21.heap.size by omega)).trans hbg_13
    have HF6_14 := hid (HF6_13.out.below b22)
    have HB_14 := hid (keepS HB_13.out b22)
    clear xa6_13 xb6_13 hx7_13 hbx_13 hby_13 hbg_13 HF6_13 HB_13 b22
    have zq : w.heap.size < w22.heap.size := by omega
    have zr : w.heap.size + 1 < w22.heap.size := by omega
    go_wp2_with fail
    refine wp_region_held_drew (S := fun w' => Below w22.heap.size w22 w' ∧ w'.cell? ⟨w.heap.size, 0, none⟩ = some (.slice a n c) ∧ w'.cell? ⟨w.heap.size + 1, 0, none⟩ = some (.slice a' n' c')) (by kernel_rfl) ⟨(Below.refl _ _).drew, xa6_14, xb6_14⟩ (fun hHeld => ?_)
    refine take1 (i := 0) (d := some 95) (v := ?_) (by kernel_rfl) (by kernel_rfl) (by kernel_rfl) (by kernel_rfl) (fun _ _ _ h => h) ?_ hHeld ?_
    rotate_left
    · (intro o ho; simp only [List.getElem?_toArray, List.getElem?_cons_succ, List.getElem?_cons_zero, Option.some.injEq] at ho; subst ho; refine Or.inl ⟨by rfl, ?_⟩; intro w hSw; (try dsimp only at hSw); go_simp; try with_reducible rfl)
    try simp only [Act.put, List.setIfInBounds_toArray, List.set_cons_zero, List.set_cons_succ]
    refine take1 (i := 2) (d := some 97) (v := ?_) (by kernel_rfl) (by kernel_rfl) (by kernel_rfl) (by kernel_rfl) (fun _ _ _ h => h) ?_ hHeld ?_
    rotate_left
    · (intro o ho; simp only [List.getElem?_toArray, List.getElem?_cons_succ, List.getElem?_cons_zero, Option.some.injEq] at ho; subst ho; refine Or.inl ⟨by rfl, ?_⟩; intro w hSw; (try dsimp only at hSw); go_simp; try with_reducible rfl)
    try simp only [Act.put, List.setIfInBounds_toArray, List.set_cons_zero, List.set_cons_succ]
    obtain ⟨q0, hq0⟩ : ∃ q0, w22.drew = q0 := ⟨_, rfl⟩
    rw [hq0] at hHeld ⊢
    clear hq0
    have hB0 := hHeld.1
    refine call2 (i := 1) (d := some 96) (j := 8) (e := some 15) (by kernel_rfl) (by kernel_rfl) (by kernel_rfl) ?_ ?_
    rotate_left
    focus
      skip
      intro o ho hod K hK; simp only [List.getElem?_toArray, List.getElem?_cons_succ, List.getElem?_cons_zero, Option.some.injEq] at ho; subst ho
      go_simp
      obtain ⟨qx, hqx⟩ : ∃ qx, q0.alloc (.cells #[.slice none 0 0] 41) = qx := ⟨_, rfl⟩
      have hxb : Below q0.heap.size q0 qx := by rw [← hqx]; exact (Below.refl _ _).alloc (Nat.le_refl _) _
      have hxc : qx.cell? ⟨q0.heap.size, 0, none⟩ = some (.slice none 0 0) := by rw [← hqx]; simp
      have hxf : qx.frozen? ⟨q0.heap.size, 0, none⟩ = false := by rw [← hqx]; simp
      have hxz : qx.heap.size = q0.heap.size + 1 := by rw [← hqx]; simp
      obtain ⟨A7, hA6⟩ : ∃ A7, q0.heap.size = A7 := ⟨_, rfl⟩
      rw [hA6] at hxc hxf hxz ⊢
      rw [hqx]
      clear hqx
      have hBx := keepS hB0 hxb
      have hA0 : w22.heap.size ≤ A7 := by have := hB0.size; omega
      have hA6a : q0.heap.size ≤ A7 := by omega
      have hA6b : A7 ≤ q0.heap.size := by omega
      have hxbk := hid hxb
      clear hxb hA6
      refine hK.out _ _ ⟨hBx, (hBx.cell (p := ⟨w.heap.size, 0, none⟩) zq).trans xa6_14, (hBx.cell (p := ⟨w.heap.size + 1, 0, none⟩) zr).trans xb6_14⟩ (fun hHeld => ?_)
      clear hK K
      try simp only [Act.put, List.setIfInBounds_toArray, List.set_cons_zero, List.set_cons_succ]
      refine call1 (i := 1) (d := some 96) (by kernel_rfl) (by kernel_rfl) ?_
      intro o ho hod K hK; simp only [List.getElem?_toArray, List.getElem?_cons_succ, List.getElem?_cons_zero, Option.some.injEq] at ho; subst ho
      go_simp
      refine (toContext a n c R F T _ hl (HH.out.below (keepS HB_14.out hBx))).mono ?_
      rintro e q3 ⟨qg3, qh3, qh3', rfl, qs3, qb3⟩
      have z1 := qb3.size
      have hxc := (qb3.cell (p := ⟨A7, 0, none⟩) (show A7 < qx.heap.size by omega)).trans hxc
      have hxf := (qb3.frozen (p := ⟨A7, 0, none⟩) (show A7 < qx.heap.size by omega)).trans hxf
      have hB1 := keepS hBx qb3
      refine hK.out _ _ ⟨hB1, (hB1.cell (p := ⟨w.heap.size, 0, none⟩) zq).trans xa6_14, (hB1.cell (p := ⟨w.heap.size + 1, 0, none⟩) zr).trans xb6_14⟩ (fun hHeld => ?_)
      clear hK K
      try simp only [Act.put, List.setIfInBounds_toArray, List.set_cons_zero, List.set_cons_succ]
      refine call1 (i := 3) (d := some 98) (by kernel_rfl) (by kernel_rfl) ?_
      intro o ho hod K hK; simp only [List.getElem?_toArray, List.getElem?_cons_succ, List.getElem?_cons_zero, Option.some.injEq] at ho; subst ho
      go_simp
      refine (toContext a' n' c' R' F' T' _ hl2 (HH'.out.below (keepS HB_14.out hB1))).mono ?_
      rintro e q4 ⟨qg4, qh4, qh4', rfl, qs4, qb4⟩
      have qs34 := qs3.below qb4
      have z3 := qb4.size
      have hxc := (qb4.cell (p := ⟨A7, 0, none⟩) (show A7 < q3.heap.size by omega)).trans hxc
      have hxf := (qb4.frozen (p := ⟨A7, 0, none⟩) (show A7 < q3.heap.size by omega)).trans hxf
      have hB3 := keepS hB1 qb4
      refine hK.out _ _ ⟨hB3, (hB3.cell (p := ⟨w.heap.size, 0, none⟩) zq).trans xa6_14, (hB3.cell (p := ⟨w.heap.size + 1, 0, none⟩) zr).trans xb6_14⟩ (fun hHeld => ?_)
      clear hK K
      try simp only [Act.put, List.setIfInBounds_toArray, List.set_cons_zero, List.set_cons_succ]
      refine call1 (i := 4) (d := some 99) (by kernel_rfl) (by kernel_rfl) ?_
      intro o ho hod K hK; simp only [List.getElem?_toArray, List.getElem?_cons_succ, List.getElem?_cons_zero, Option.some.injEq] at ho; subst ho
      go_simp
      have hBn := hB3
      refine (implUn _ n n R F T _ n' n' R' F' T' _ hl hl2 qs34 qs4).mono ?_
      rintro e q5 ⟨qv, rfl, qo5, qb5⟩
      rw [HZ.out] at qo5
      rw [HOK.out]
      obtain ⟨qy, qm, qc, qe⟩ := row_form qo5
      subst qe
      have z4 := qb5.size
      have hxc := (qb5.cell (p := ⟨A7, 0, none⟩) (show A7 < q4.heap.size by omega)).trans hxc
      have hxf := (qb5.frozen (p := ⟨A7, 0, none⟩) (show A7 < q4.heap.size by omega)).trans hxf
      have hB4 := keepS hB3 qb5
      refine hK.out _ _ ⟨hB4, (hB4.cell (p := ⟨w.heap.size, 0, none⟩) zq).trans xa6_14, (hB4.cell (p := ⟨w.heap.size + 1, 0, none⟩) zr).trans xb6_14⟩ (fun hHeld => ?_)
      clear hK K
      try simp only [Act.put, List.setIfInBounds_toArray, List.set_cons_zero, List.set_cons_succ]
      refine take1 (i := 5) (d := some 94) (v := ?_) (by kernel_rfl) (by kernel_rfl) (by kernel_rfl) (by kernel_rfl) (fun _ _ _ h => h) ?_ hHeld ?_
      rotate_left
      · (intro o ho; simp only [List.getElem?_toArray, List.getElem?_cons_succ, List.getElem?_cons_zero, Option.some.injEq] at ho; subst ho; refine Or.inl ⟨by rfl, ?_⟩; intro w hSw; (try dsimp only at hSw); go_simp; try with_reducible rfl)
      try simp only [Act.put, List.setIfInBounds_toArray, List.set_cons_zero, List.set_cons_succ]
      refine take1 (i := 6) (d := some 100) (v := ?_) (by kernel_rfl) (by kernel_rfl) (by kernel_rfl) (by kernel_rfl) (fun _ _ _ h => h) ?_ hHeld ?_
      rotate_left
      · (intro o ho; simp only [List.getElem?_toArray, List.getElem?_cons_succ, List.getElem?_cons_zero, Option.some.injEq] at ho; subst ho; refine Or.inl ⟨by rfl, ?_⟩; intro w hSw; (try dsimp only at hSw); go_simp; try with_reducible rfl)
      try simp only [Act.put, List.setIfInBounds_toArray, List.set_cons_zero, List.set_cons_succ]
      refine take1 (i := 7) (d := some 101) (v := ?_) (by kernel_rfl) (by kernel_rfl) (by kernel_rfl) (by kernel_rfl) (fun _ _ _ h => h) ?_ hHeld ?_
      rotate_left
      · (intro o ho; simp only [List.getElem?_toArray, List.getElem?_cons_succ, List.getElem?_cons_zero, Option.some.injEq] at ho; subst ho; refine Or.inl ⟨by rfl, ?_⟩; intro w hSw; (try dsimp only at hSw); go_simp; try with_reducible rfl)
      try simp only [Act.put, List.setIfInBounds_toArray, List.set_cons_zero, List.set_cons_succ]
      refine call1 (i := 9) (d := none) (by kernel_rfl) (by kernel_rfl) ?_
      intro o ho hod K hK; simp only [List.getElem?_toArray, List.getElem?_cons_succ, List.getElem?_cons_zero, Option.some.injEq] at ho; subst ho
      go_simp
      obtain ⟨W7, hW6⟩ : ∃ W7, q5.setCell ⟨A7, 0, none⟩ (.slice qy qm qc) = W7 := ⟨_, rfl⟩
      have hB7 : Below w22.heap.size w22 W7 := by rw [← hW6]; exact hB4.setCell (p := ⟨A7, 0, none⟩) hA0 _
      have hx7 : W7.cell? ⟨A7, 0, none⟩ = some (.slice qy qm qc) := by rw [← hW6]; exact World.cell?_setCell_same _ _ _ hxc
      have hz7 : W7.heap.size = q5.heap.size := by rw [← hW6]; simp [World.setCell]
      have hF7 : FR W7 w22.heap.size (.slice qy qm qc) Z := by rw [← hW6]; exact FR.weak (ownsRow_setCell_below qo5 (a := ⟨A7, 0, none⟩) (by show A7 < _; omega) _) (by have := hB3.size; have := hBn.size; omega)
      rw [hW6]
      refine hK.out _ _ ⟨hB7, (hB7.cell (p := ⟨w.heap.size, 0, none⟩) zq).trans xa6_14, (hB7.cell (p := ⟨w.heap.size + 1, 0, none⟩) zr).trans xb6_14⟩ (fun hHeld => ?_)
      clear hK K
      try simp only [Act.put, List.setIfInBounds_toArray, List.set_cons_zero, List.set_cons_succ]
      refine take1 (i := 10) (d := some 16) (v := ?_) (by kernel_rfl) (by kernel_rfl) (by kernel_rfl) (by kernel_rfl) (fun _ _ _ h => h) ?_ hHeld ?_
      rotate_left
      · (intro o ho; simp only [List.getElem?_toArray, List.getElem?_cons_succ, List.getElem?_cons_zero, Option.some.injEq] at ho; subst ho; refine Or.inl ⟨by rfl, ?_⟩; intro w hSw; (try dsimp only at hSw); go_simp; try with_reducible rfl)
      try simp only [Act.put, List.setIfInBounds_toArray, List.set_cons_zero, List.set_cons_succ]
      refine wpAnyH_done (by kernel_rfl) ?_ _
      have hA1 : A7 < W7.heap.size := by omega
      have HFh := hid hF7
      have HFw := hid (HF6_14.out.gr (row := none) ⟨hB7.os, hB7.tape, hB7.output, hB7.size, fun k hk _ => hB7.block k hk⟩ (by simp))
      have bw7 := (hB7.cell (p := ⟨A6, 0, none⟩) (show A6 < w22.heap.size by omega)).trans hx7_14
      have HB7 := hid (keepS HB_14.out hB7)
      clear hF7 hB7 xa6_14 xb6_14 hx7_14 HF6_14 HB_14
      try clear hHeld
      try clear hod
      try clear hW6
      try clear hxc
      try clear hxf
      try clear hB0
      try clear hB1
      try clear hB3
      try clear hB4
      try clear hBn
      try clear hBx
      try clear hB6
      try clear hxbk
      try clear qs3
      try clear qs34
      try clear qs4
      try clear qo5
      try clear qb3
      try clear qb4
      try clear qb5
      try clear hz7
      try clear hA6a
      try clear hA6b
    rotate_left
    focus
      skip
      intro o ho hod K hK; simp only [List.getElem?_toArray, List.getElem?_cons_succ, List.getElem?_cons_zero, Option.some.injEq] at ho; subst ho
      go_simp
      refine (toContext a n c R F T _ hl (HH.out.below (keepS HB_14.out hB0))).mono ?_
      rintro e q3 ⟨qg3, qh3, qh3', rfl, qs3, qb3⟩
      have z1 := qb3.size
      have hB1 := keepS hB0 qb3
      refine hK.out _ _ ⟨hB1, (hB1.cell (p := ⟨w.heap.size, 0, none⟩) zq).trans xa6_14, (hB1.cell (p := ⟨w.heap.size + 1, 0, none⟩) zr).trans xb6_14⟩ (fun hHeld => ?_)
      clear hK K
      try simp only [Act.put, List.setIfInBounds_toArray, List.set_cons_zero, List.set_cons_succ]
      refine call2 (i := 3) (d := some 98) (j := 8) (e := some 15) (by kernel_rfl) (by kernel_rfl) (by kernel_rfl) ?_ ?_
      rotate_left
      focus
        skip
        intro o ho hod K hK; simp only [List.getElem?_toArray, List.getElem?_cons_succ, List.getElem?_cons_zero, Option.some.injEq] at ho; subst ho
        go_simp
        obtain ⟨qx, hqx⟩ : ∃ qx, q3.alloc (.cells #[.slice none 0 0] 41) = qx := ⟨_, rfl⟩
        have hxb : Below q3.heap.size q3 qx := by rw [← hqx]; exact (Below.refl _ _).alloc (Nat.le_refl _) _
        have hxc : qx.cell? ⟨q3.heap.size, 0, none⟩ = some (.slice none 0 0) := by rw [← hqx]; simp
        have hxf : qx.frozen? ⟨q3.heap.size, 0, none⟩ = false := by rw [← hqx]; simp
        have hxz : qx.heap.size = q3.heap.size + 1 := by rw [← hqx]; simp
        obtain ⟨A7, hA6⟩ : ∃ A7, q3.heap.size = A7 := ⟨_, rfl⟩
        rw [hA6] at hxc hxf hxz ⊢
        rw [hqx]
        clear hqx
        have hBx := keepS hB1 hxb
        have qs3 := qs3.below hxb
        have hA0 : w22.heap.size ≤ A7 := by have := hB1.size; omega
        have hA6a : q3.heap.size ≤ A7 := by omega
        have hA6b : A7 ≤ q3.heap.size := by omega
        have hxbk := hid hxb
        clear hxb hA6
        refine hK.out _ _ ⟨hBx, (hBx.cell (p := ⟨w.heap.size, 0, none⟩) zq).trans xa6_14, (hBx.cell (p := ⟨w.heap.size + 1, 0, none⟩) zr).trans xb6_14⟩ (fun hHeld => ?_)
        clear hK K
        try simp only [Act.put, List.setIfInBounds_toArray, List.set_cons_zero, List.set_cons_succ]
        refine call1 (i := 3) (d := some 98) (by kernel_rfl) (by kernel_rfl) ?_
        intro o ho hod K hK; simp only [List.getElem?_toArray, List.getElem?_cons_succ, List.getElem?_cons_zero, Option.some.injEq] at ho; subst ho
        go_simp
        refine (toContext a' n' c' R' F' T' _ hl2 (HH'.out.below (keepS HB_14.out hBx))).mono ?_
        rintro e q4 ⟨qg4, qh4, qh4', rfl, qs4, qb4⟩
        have qs34 := qs3.below qb4
        have z3 := qb4.size
        have hxc := (qb4.cell (p := ⟨A7, 0, none⟩) (show A7 < qx.heap.size by omega)).trans hxc
        have hxf := (qb4.frozen (p := ⟨A7, 0, none⟩) (show A7 < qx.heap.size by omega)).trans hxf
        have hB3 := keepS hBx qb4
        refine hK.out _ _ ⟨hB3, (hB3.cell (p := ⟨w.heap.size, 0, none⟩) zq).trans xa6_14, (hB3.cell (p := ⟨w.heap.size + 1, 0, none⟩) zr).trans xb6_14⟩ (fun hHeld => ?_)
        clear hK K
        try simp only [Act.put, List.setIfInBounds_toArray, List.set_cons_zero, List.set_cons_succ]
        refine call1 (i := 4) (d := some 99) (by kernel_rfl) (by kernel_rfl) ?_
        intro o ho hod K hK; simp only [List.getElem?_toArray, List.getElem?_cons_succ, List.getElem?_cons_zero, Option.some.injEq] at ho; subst ho
        go_simp
        have hBn := hB3
        refine (implUn _ n n R F T _ n' n' R' F' T' _ hl hl2 qs34 qs4).mono ?_
        rintro e q5 ⟨qv, rfl, qo5, qb5⟩
        rw [HZ.out] at qo5
        rw [HOK.out]
        obtain ⟨qy, qm, qc, qe⟩ := row_form qo5
        subst qe
        have z4 := qb5.size
        have hxc := (qb5.cell (p := ⟨A7, 0, none⟩) (show A7 < q4.heap.size by omega)).trans hxc
        have hxf := (qb5.frozen (p := ⟨A7, 0, none⟩) (show A7 < q4.heap.size by omega)).trans hxf
        have hB4 := keepS hB3 qb5
        refine hK.out _ _ ⟨hB4, (hB4.cell (p := ⟨w.heap.size, 0, none⟩) zq).trans xa6_14, (hB4.cell (p := ⟨w.heap.size + 1, 0, none⟩) zr).trans xb6_14⟩ (fun hHeld => ?_)
        clear hK K
        try simp only [Act.put, List.setIfInBounds_toArray, List.set_cons_zero, List.set_cons_succ]
        refine take1 (i := 5) (d := some 94) (v := ?_) (by kernel_rfl) (by kernel_rfl) (by kernel_rfl) (by kernel_rfl) (fun _ _ _ h => h) ?_ hHeld ?_
        rotate_left
        · (intro o ho; simp only [List.getElem?_toArray, List.getElem?_cons_succ, List.getElem?_cons_zero, Option.some.injEq] at ho; subst ho; refine Or.inl ⟨by rfl, ?_⟩; intro w hSw; (try dsimp only at hSw); go_simp; try with_reducible rfl)
        try simp only [Act.put, List.setIfInBounds_toArray, List.set_cons_zero, List.set_cons_succ]
        refine take1 (i := 6) (d := some 100) (v := ?_) (by kernel_rfl) (by kernel_rfl) (by kernel_rfl) (by kernel_rfl) (fun _ _ _ h => h) ?_ hHeld ?_
        rotate_left
        · (intro o ho; simp only [List.getElem?_toArray, List.getElem?_cons_succ, List.getElem?_cons_zero, Option.some.injEq] at ho; subst ho; refine Or.inl ⟨by rfl, ?_⟩; intro w hSw; (try dsimp only at hSw); go_simp; try with_reducible rfl)
        try simp only [Act.put, List.setIfInBounds_toArray, List.set_cons_zero, List.set_cons_succ]
        refine take1 (i := 7) (d := some 101) (v := ?_) (by kernel_rfl) (by kernel_rfl) (by kernel_rfl) (by kernel_rfl) (fun _ _ _ h => h) ?_ hHeld ?_
        rotate_left
        · (intro o ho; simp only [List.getElem?_toArray, List.getElem?_cons_succ, List.getElem?_cons_zero, Option.some.injEq] at ho; subst ho; refine Or.inl ⟨by rfl, ?_⟩; intro w hSw; (try dsimp only at hSw); go_simp; try with_reducible rfl)
        try simp only [Act.put, List.setIfInBounds_toArray, List.set_cons_zero, List.set_cons_succ]
        refine call1 (i := 9) (d := none) (by kernel_rfl) (by kernel_rfl) ?_
        intro o ho hod K hK; simp only [List.getElem?_toArray, List.getElem?_cons_succ, List.getElem?_cons_zero, Option.some.injEq] at ho; subst ho
        go_simp
        obtain ⟨W7, hW6⟩ : ∃ W7, q5.setCell ⟨A7, 0, none⟩ (.slice qy qm qc) = W7 := ⟨_, rfl⟩
        have hB7 : Below w22.heap.size w22 W7 := by rw [← hW6]; exact hB4.setCell (p := ⟨A7, 0, none⟩) hA0 _
        have hx7 : W7.cell? ⟨A7, 0, none⟩ = some (.slice qy qm qc) := by rw [← hW6]; exact World.cell?_setCell_same _ _ _ hxc
        have hz7 : W7.heap.size = q5.heap.size := by rw [← hW6]; simp [World.setCell]
        have hF7 : FR W7 w22.heap.size (.slice qy qm qc) Z := by rw [← hW6]; exact FR.weak (ownsRow_setCell_below qo5 (a := ⟨A7, 0, none⟩) (by show A7 < _; omega) _) (by have := hB3.size; have := hBn.size; omega)
        rw [hW6]
        refine hK.out _ _ ⟨hB7, (hB7.cell (p := ⟨w.heap.size, 0, none⟩) zq).trans xa6_14, (hB7.cell (p := ⟨w.heap.size + 1, 0, none⟩) zr).trans xb6_14⟩ (fun hHeld => ?_)
        clear hK K
        try simp only [Act.put, List.setIfInBounds_toArray, List.set_cons_zero, List.set_cons_succ]
        refine take1 (i := 10) (d := some 16) (v := ?_) (by kernel_rfl) (by kernel_rfl) (by kernel_rfl) (by kernel_rfl) (fun _ _ _ h => h) ?_ hHeld ?_
        rotate_left
        · (intro o ho; simp only [List.getElem?_toArray, List.getElem?_cons_succ, List.getElem?_cons_zero, Option.some.injEq] at ho; subst ho; refine Or.inl ⟨by rfl, ?_⟩; intro w hSw; (try dsimp only at hSw); go_simp; try with_reducible rfl)
        try simp only [Act.put, List.setIfInBounds_toArray, List.set_cons_zero, List.set_cons_succ]
        refine wpAnyH_done (by kernel_rfl) ?_ _
        have hA1 : A7 < W7.heap.size := by omega
        have HFh := hid hF7
        have HFw := hid (HF6_14.out.gr (row := none) ⟨hB7.os, hB7.tape, hB7.output, hB7.size, fun k hk _ => hB7.block k hk⟩ (by simp))
        have bw7 := (hB7.cell (p := ⟨A6, 0, none⟩) (show A6 < w22.heap.size by omega)).trans hx7_14
        have HB7 := hid (keepS HB_14.out hB7)
        clear hF7 hB7 xa6_14 xb6_14 hx7_14 HF6_14 HB_14
        try clear hHeld
        try clear hod
        try clear hW6
        try clear hxc
        try clear hxf
        try clear hB0
        try clear hB1
        try clear hB3
        try clear hB4
        try clear hBn
        try clear hBx
        try clear hB6
        try clear hxbk
        try clear qs3
        try clear qs34
        try clear qs4
        try clear qo5
        try clear qb3
        try clear qb4
        try clear qb5
        try clear hz7
        try clear hA6a
        try clear hA6b
      rotate_left
      focus
        skip
        intro o ho hod K hK; simp only [List.getElem?_toArray, List.getElem?_cons_succ, List.getElem?_cons_zero, Option.some.injEq] at ho; subst ho
        go_simp
        refine (toContext a' n' c' R' F' T' _ hl2 (HH'.out.below (keepS HB_14.out hB1))).mono ?_
        rintro e q4 ⟨qg4, qh4, qh4', rfl, qs4, qb4⟩
        have qs34 := qs3.below qb4
        have z3 := qb4.size
        have hB3 := keepS hB1 qb4
        refine hK.out _ _ ⟨hB3, (hB3.cell (p := ⟨w.heap.size, 0, none⟩) zq).trans xa6_14, (hB3.cell (p := ⟨w.heap.size + 1, 0, none⟩) zr).trans xb6_14⟩ (fun hHeld => ?_)
        clear hK K
        try simp only [Act.put, List.setIfInBounds_toArray, List.set_cons_zero, List.set_cons_succ]
        refine call2 (i := 4) (d := some 99) (j := 8) (e := some 15) (by kernel_rfl) (by kernel_rfl) (by kernel_rfl) ?_ ?_
        rotate_left
        focus
          skip
          intro o ho hod K hK; simp only [List.getElem?_toArray, List.getElem?_cons_succ, List.getElem?_cons_zero, Option.some.injEq] at ho; subst ho
          go_simp
          obtain ⟨qx, hqx⟩ : ∃ qx, q4.alloc (.cells #[.slice none 0 0] 41) = qx := ⟨_, rfl⟩
          have hxb : Below q4.heap.size q4 qx := by rw [← hqx]; exact (Below.refl _ _).alloc (Nat.le_refl _) _
          have hxc : qx.cell? ⟨q4.heap.size, 0, none⟩ = some (.slice none 0 0) := by rw [← hqx]; simp
          have hxf : qx.frozen? ⟨q4.heap.size, 0, none⟩ = false := by rw [← hqx]; simp
          have hxz : qx.heap.size = q4.heap.size + 1 := by rw [← hqx]; simp
          obtain ⟨A7, hA6⟩ : ∃ A7, q4.heap.size = A7 := ⟨_, rfl⟩
          rw [hA6] at hxc hxf hxz ⊢
          rw [hqx]
          clear hqx
          have hBx := keepS hB3 hxb
          have qs34 := qs34.below hxb
          have qs4 := qs4.below hxb
          have hA0 : w22.heap.size ≤ A7 := by have := hB3.size; omega
          have hA6a : q4.heap.size ≤ A7 := by omega
          have hA6b : A7 ≤ q4.heap.size := by omega
          have hxbk := hid hxb
          clear hxb hA6
          refine hK.out _ _ ⟨hBx, (hBx.cell (p := ⟨w.heap.size, 0, none⟩) zq).trans xa6_14, (hBx.cell (p := ⟨w.heap.size + 1, 0, none⟩) zr).trans xb6_14⟩ (fun hHeld => ?_)
          clear hK K
          try simp only [Act.put, List.setIfInBounds_toArray, List.set_cons_zero, List.set_cons_succ]
          refine call1 (i := 4) (d := some 99) (by kernel_rfl) (by kernel_rfl) ?_
          intro o ho hod K hK; simp only [List.getElem?_toArray, List.getElem?_cons_succ, List.getElem?_cons_zero, Option.some.injEq] at ho; subst ho
          go_simp
          have hBn := hBx
          refine (implUn _ n n R F T _ n' n' R' F' T' _ hl hl2 qs34 qs4).mono ?_
          rintro e q5 ⟨qv, rfl, qo5, qb5⟩
          rw [HZ.out] at qo5
          rw [HOK.out]
          obtain ⟨qy, qm, qc, qe⟩ := row_form qo5
          subst qe
          have z4 := qb5.size
          have hxc := (qb5.cell (p := ⟨A7, 0, none⟩) (show A7 < qx.heap.size by omega)).trans hxc
          have hxf := (qb5.frozen (p := ⟨A7, 0, none⟩) (show A7 < qx.heap.size by omega)).trans hxf
          have hB4 := keepS hBx qb5
          refine hK.out _ _ ⟨hB4, (hB4.cell (p := ⟨w.heap.size, 0, none⟩) zq).trans xa6_14, (hB4.cell (p := ⟨w.heap.size + 1, 0, none⟩) zr).trans xb6_14⟩ (fun hHeld => ?_)
          clear hK K
          try simp only [Act.put, List.setIfInBounds_toArray, List.set_cons_zero, List.set_cons_succ]
          refine take1 (i := 5) (d := some 94) (v := ?_) (by kernel_rfl) (by kernel_rfl) (by kernel_rfl) (by kernel_rfl) (fun _ _ _ h => h) ?_ hHeld ?_
          rotate_left
          · (intro o ho; simp only [List.getElem?_toArray, List.getElem?_cons_succ, List.getElem?_cons_zero, Option.some.injEq] at ho; subst ho; refine Or.inl ⟨by rfl, ?_⟩; intro w hSw; (try dsimp only at hSw); go_simp; try with_reducible rfl)
          try simp only [Act.put, List.setIfInBounds_toArray, List.set_cons_zero, List.set_cons_succ]
          refine take1 (i := 6) (d := some 100) (v := ?_) (by kernel_rfl) (by kernel_rfl) (by kernel_rfl) (by kernel_rfl) (fun _ _ _ h => h) ?_ hHeld ?_
          rotate_left
          · (intro o ho; simp only [List.getElem?_toArray, List.getElem?_cons_succ, List.getElem?_cons_zero, Option.some.injEq] at ho; subst ho; refine Or.inl ⟨by rfl, ?_⟩; intro w hSw; (try dsimp only at hSw); go_simp; try with_reducible rfl)
          try simp only [Act.put, List.setIfInBounds_toArray, List.set_cons_zero, List.set_cons_succ]
          refine take1 (i := 7) (d := some 101) (v := ?_) (by kernel_rfl) (by kernel_rfl) (by kernel_rfl) (by kernel_rfl) (fun _ _ _ h => h) ?_ hHeld ?_
          rotate_left
          · (intro o ho; simp only [List.getElem?_toArray, List.getElem?_cons_succ, List.getElem?_cons_zero, Option.some.injEq] at ho; subst ho; refine Or.inl ⟨by rfl, ?_⟩; intro w hSw; (try dsimp only at hSw); go_simp; try with_reducible rfl)
          try simp only [Act.put, List.setIfInBounds_toArray, List.set_cons_zero, List.set_cons_succ]
          refine call1 (i := 9) (d := none) (by kernel_rfl) (by kernel_rfl) ?_
          intro o ho hod K hK; simp only [List.getElem?_toArray, List.getElem?_cons_succ, List.getElem?_cons_zero, Option.some.injEq] at ho; subst ho
          go_simp
          obtain ⟨W7, hW6⟩ : ∃ W7, q5.setCell ⟨A7, 0, none⟩ (.slice qy qm qc) = W7 := ⟨_, rfl⟩
          have hB7 : Below w22.heap.size w22 W7 := by rw [← hW6]; exact hB4.setCell (p := ⟨A7, 0, none⟩) hA0 _
          have hx7 : W7.cell? ⟨A7, 0, none⟩ = some (.slice qy qm qc) := by rw [← hW6]; exact World.cell?_setCell_same _ _ _ hxc
          have hz7 : W7.heap.size = q5.heap.size := by rw [← hW6]; simp [World.setCell]
          have hF7 : FR W7 w22.heap.size (.slice qy qm qc) Z := by rw [← hW6]; exact FR.weak (ownsRow_setCell_below qo5 (a := ⟨A7, 0, none⟩) (by show A7 < _; omega) _) (by have := hB3.size; have := hBn.size; omega)
          rw [hW6]
          refine hK.out _ _ ⟨hB7, (hB7.cell (p := ⟨w.heap.size, 0, none⟩) zq).trans xa6_14, (hB7.cell (p := ⟨w.heap.size + 1, 0, none⟩) zr).trans xb6_14⟩ (fun hHeld => ?_)
          clear hK K
          try simp only [Act.put, List.setIfInBounds_toArray, List.set_cons_zero, List.set_cons_succ]
          refine take1 (i := 10) (d := some 16) (v := ?_) (by kernel_rfl) (by kernel_rfl) (by kernel_rfl) (by kernel_rfl) (fun _ _ _ h => h) ?_ hHeld ?_
          rotate_left
          · (intro o ho; simp only [List.getElem?_toArray, List.getElem?_cons_succ, List.getElem?_cons_zero, Option.some.injEq] at ho; subst ho; refine Or.inl ⟨by rfl, ?_⟩; intro w hSw; (try dsimp only at hSw); go_simp; try with_reducible rfl)
          try simp only [Act.put, List.setIfInBounds_toArray, List.set_cons_zero, List.set_cons_succ]
          refine wpAnyH_done (by kernel_rfl) ?_ _
          have hA1 : A7 < W7.heap.size := by omega
          have HFh := hid hF7
          have HFw := hid (HF6_14.out.gr (row := none) ⟨hB7.os, hB7.tape, hB7.output, hB7.size, fun k hk _ => hB7.block k hk⟩ (by simp))
          have bw7 := (hB7.cell (p := ⟨A6, 0, none⟩) (show A6 < w22.heap.size by omega)).trans hx7_14
          have HB7 := hid (keepS HB_14.out hB7)
          clear hF7 hB7 xa6_14 xb6_14 hx7_14 HF6_14 HB_14
          try clear hHeld
          try clear hod
          try clear hW6
          try clear hxc
          try clear hxf
          try clear hB0
          try clear hB1
          try clear hB3
          try clear hB4
          try clear hBn
          try clear hBx
          try clear hB6
          try clear hxbk
          try clear qs3
          try clear qs34
          try clear qs4
          try clear qo5
          try clear qb3
          try clear qb4
          try clear qb5
          try clear hz7
          try clear hA6a
          try clear hA6b
        rotate_left
        focus
          skip
          intro o ho hod K hK; simp only [List.getElem?_toArray, List.getElem?_cons_succ, List.getElem?_cons_zero, Option.some.injEq] at ho; subst ho
          go_simp
          have hBn := hB3
          refine (implUn _ n n R F T _ n' n' R' F' T' _ hl hl2 qs34 qs4).mono ?_
          rintro e q5 ⟨qv, rfl, qo5, qb5⟩
          rw [HZ.out] at qo5
          rw [HOK.out]
          obtain ⟨qy, qm, qc, qe⟩ := row_form qo5
          subst qe
          have z4 := qb5.size
          have hB4 := keepS hB3 qb5
          refine hK.out _ _ ⟨hB4, (hB4.cell (p := ⟨w.heap.size, 0, none⟩) zq).trans xa6_14, (hB4.cell (p := ⟨w.heap.size + 1, 0, none⟩) zr).trans xb6_14⟩ (fun hHeld => ?_)
          clear hK K
          try simp only [Act.put, List.setIfInBounds_toArray, List.set_cons_zero, List.set_cons_succ]
          refine take1 (i := 5) (d := some 94) (v := ?_) (by kernel_rfl) (by kernel_rfl) (by kernel_rfl) (by kernel_rfl) (fun _ _ _ h => h) ?_ hHeld ?_
          rotate_left
          · (intro o ho; simp only [List.getElem?_toArray, List.getElem?_cons_succ, List.getElem?_cons_zero, Option.some.injEq] at ho; subst ho; refine Or.inl ⟨by rfl, ?_⟩; intro w hSw; (try dsimp only at hSw); go_simp; try with_reducible rfl)
          try simp only [Act.put, List.setIfInBounds_toArray, List.set_cons_zero, List.set_cons_succ]
          refine take1 (i := 6) (d := some 100) (v := ?_) (by kernel_rfl) (by kernel_rfl) (by kernel_rfl) (by kernel_rfl) (fun _ _ _ h => h) ?_ hHeld ?_
          rotate_left
          · (intro o ho; simp only [List.getElem?_toArray, List.getElem?_cons_succ, List.getElem?_cons_zero, Option.some.injEq] at ho; subst ho; refine Or.inl ⟨by rfl, ?_⟩; intro w hSw; (try dsimp only at hSw); go_simp; try with_reducible rfl)
          try simp only [Act.put, List.setIfInBounds_toArray, List.set_cons_zero, List.set_cons_succ]
          refine take1 (i := 7) (d := some 101) (v := ?_) (by kernel_rfl) (by kernel_rfl) (by kernel_rfl) (by kernel_rfl) (fun _ _ _ h => h) ?_ hHeld ?_
          rotate_left
          · (intro o ho; simp only [List.getElem?_toArray, List.getElem?_cons_succ, List.getElem?_cons_zero, Option.some.injEq] at ho; subst ho; refine Or.inl ⟨by rfl, ?_⟩; intro w hSw; (try dsimp only at hSw); go_simp; try with_reducible rfl)
          try simp only [Act.put, List.setIfInBounds_toArray, List.set_cons_zero, List.set_cons_succ]
          refine call1 (i := 8) (d := some 15) (by kernel_rfl) (by kernel_rfl) ?_
          intro o ho hod K hK; simp only [List.getElem?_toArray, List.getElem?_cons_succ, List.getElem?_cons_zero, Option.some.injEq] at ho; subst ho
          go_simp
          obtain ⟨qx, hqx⟩ : ∃ qx, q5.alloc (.cells #[.slice none 0 0] 41) = qx := ⟨_, rfl⟩
          have hxb : Below q5.heap.size q5 qx := by rw [← hqx]; exact (Below.refl _ _).alloc (Nat.le_refl _) _
          have hxc : qx.cell? ⟨q5.heap.size, 0, none⟩ = some (.slice none 0 0) := by rw [← hqx]; simp
          have hxf : qx.frozen? ⟨q5.heap.size, 0, none⟩ = false := by rw [← hqx]; simp
          have hxz : qx.heap.size = q5.heap.size + 1 := by rw [← hqx]; simp
          obtain ⟨A7, hA6⟩ : ∃ A7, q5.heap.size = A7 := ⟨_, rfl⟩
          rw [hA6] at hxc hxf hxz ⊢
          rw [hqx]
          clear hqx
          have hB6 := keepS hB4 hxb
          have hA0 : w22.heap.size ≤ A7 := by have := hB4.size; omega
          have hA6a : q5.heap.size ≤ A7 := by omega
          have hA6b : A7 ≤ q5.heap.size := by omega
          have hxbk := hid hxb
          clear hxb hA6
          refine hK.out _ _ ⟨hB6, (hB6.cell (p := ⟨w.heap.size, 0, none⟩) zq).trans xa6_14, (hB6.cell (p := ⟨w.heap.size + 1, 0, none⟩) zr).trans xb6_14⟩ (fun hHeld => ?_)
          clear hK K
          try simp only [Act.put, List.setIfInBounds_toArray, List.set_cons_zero, List.set_cons_succ]
          skip
          refine call1 (i := 9) (d := none) (by kernel_rfl) (by kernel_rfl) ?_
          intro o ho hod K hK; simp only [List.getElem?_toArray, List.getElem?_cons_succ, List.getElem?_cons_zero, Option.some.injEq] at ho; subst ho
          go_simp
          obtain ⟨W7, hW6⟩ : ∃ W7, qx.setCell ⟨A7, 0, none⟩ (.slice qy qm qc) = W7 := ⟨_, rfl⟩
          have hB7 : Below w22.heap.size w22 W7 := by rw [← hW6]; exact hB6.setCell (p := ⟨A7, 0, none⟩) hA0 _
          have hx7 : W7.cell? ⟨A7, 0, none⟩ = some (.slice qy qm qc) := by rw [← hW6]; exact World.cell?_setCell_same _ _ _ hxc
          have hz7 : W7.heap.size = qx.heap.size := by rw [← hW6]; simp [World.setCell]
          have hF7 : FR W7 w22.heap.size (.slice qy qm qc) Z := by rw [← hW6]; exact FR.weak (FR.below qo5 (hxbk.out.setCell (p := ⟨A7, 0, none⟩) hA6a _)) (by have := hB3.size; have := hBn.size; omega)
          rw [hW6]
          refine hK.out _ _ ⟨hB7, (hB7.cell (p := ⟨w.heap.size, 0, none⟩) zq).trans xa6_14, (hB7.cell (p := ⟨w.heap.size + 1, 0, none⟩) zr).trans xb6_14⟩ (fun hHeld => ?_)
          clear hK K
          try simp only [Act.put, List.setIfInBounds_toArray, List.set_cons_zero, List.set_cons_succ]
          refine take1 (i := 10) (d := some 16) (v := ?_) (by kernel_rfl) (by kernel_rfl) (by kernel_rfl) (by kernel_rfl) (fun _ _ _ h => h) ?_ hHeld ?_
          rotate_left
          · (intro o ho; simp only [List.getElem?_toArray, List.getElem?_cons_succ, List.getElem?_cons_zero, Option.some.injEq] at ho; subst ho; refine Or.inl ⟨by rfl, ?_⟩; intro w hSw; (try dsimp only at hSw); go_simp; try with_reducible rfl)
          try simp only [Act.put, List.setIfInBounds_toArray, List.set_cons_zero, List.set_cons_succ]
          refine wpAnyH_done (by kernel_rfl) ?_ _
          have hA1 : A7 < W7.heap.size := by omega
          have HFh := hid hF7
          have HFw := hid (HF6_14.out.gr (row := none) ⟨hB7.os, hB7.tape, hB7.output, hB7.size, fun k hk _ => hB7.block k hk⟩ (by simp))
          have bw7 := (hB7.cell (p := ⟨A6, 0, none⟩) (show A6 < w22.heap.size by omega)).trans hx7_14
          have HB7 := hid (keepS HB_14.out hB7)
          clear hF7 hB7 xa6_14 xb6_14 hx7_14 HF6_14 HB_14
          try clear hHeld
          try clear hod
          try clear hW6
          try clear hxc
          try clear hxf
          try clear hB0
          try clear hB1
          try clear hB3
          try clear hB4
          try clear hBn
          try clear hBx
          try clear hB6
          try clear hxbk
          try clear qs3
          try clear qs34
          try clear qs4
          try clear qo5
          try clear qb3
          try clear qb4
          try clear qb5
          try clear hz7
          try clear hA6a
          try clear hA6b
    all_goals
      go_wp2_with fail
      refine (eqFR HFh.out HFw.out (by omega)).mono ?_
      rintro e w33 ⟨rfl, b33⟩
      have HB33 := hid (keepS HB7.out b33)
      clear b33
      go_wp2_with fail
      go_ret
      exact ⟨rfl, HB33.out⟩

theorem own : ownKnob Try.prog.godebug = none := by kernel_rfl
theorem laidOut : laidOutB Try.prog = true := by kernel_rfl

set_option maxRecDepth 100000 in
theorem lifted (os : Os) (started : os.Started) (H : Type) (enc : TypeId × Value → H) :
    ReturnsInHanded {} Try.checked os 4 .any (Rows.fnExactUnionSpec.pre6 enc Try.prog Try.f4 Rows.fnExactUnionRow.domain false) (Rows.fnExactUnionSpec.post enc Try.prog Try.f4 false true false false) := by
  refine returnsInHanded_of_change (C := Try.checked) own started (by kernel_rfl) Try.func4
    (ChangeSpec.witness6 (enc := enc) (C := Try.checked) false ⟨#[], #[.agg #[.slice none 0 0], .agg #[.slice none 0 0]], []⟩ 8 (by kernel_rfl) (by kernel_rfl) (by kernel_rfl) (by kernel_rfl)) ?_
  intro W base args ds gs before hval0 hW hcnd _
  have hval : ∀ (j : Nat) t v, Try.f4.params[j]? = some t → args[j]? = some v → Value.okWide Try.prog W .any base t v := hval0
  have hW' := hW
  obtain ⟨p, q, hA0, hV, rfl, hfz, hnd⟩ := hW
  have hA : DataW.TrodAll enc Try.prog W 0 (fun _ => true) true Try.f4.params.toList args.toList ds p := hA0
  rw [Try.params4] at hA hval
  obtain ⟨v0, vs0, d0, ds0, p0, q0, hargs, rfl, rfl, h0, r0⟩ := trodAll_cons hA
  obtain ⟨v1, vs1, d1, ds1, p1, q1, rfl, rfl, rfl, h1, r1⟩ := trodAll_cons r0
  obtain ⟨rfl, rfl, rfl⟩ := trodAll_nil r1
  obtain rfl : args = #[v0, v1] := by cases args; simp_all
  obtain ⟨rfl, rfl⟩ := trodVars_none hV
  have k0 := h0
  have lt0 : ∀ x ∈ p0, x.block < W.heap.size := by obtain ⟨m, hm⟩ := k0; exact DataW.trod_lt m _ _ _ hm
  obtain ⟨a0, n0, c0, R0, F0, T0, rfl, hl0, s0, iR0, iF0, iT0⟩ := openCtx (hval 0 37 v0 rfl rfl) h0
  have k1 := h1
  have lt1 : ∀ x ∈ p1, x.block < W.heap.size := by obtain ⟨m, hm⟩ := k1; exact DataW.trod_lt m _ _ _ hm
  obtain ⟨a1, n1, c1, R1, F1, T1, rfl, hl1, s1, iR1, iF1, iT1⟩ := openCtx (hval 1 37 v1 rfl rfl) h1
  clear hA0 hval0
  refine (walk W a0 n0 c0 R0 F0 T0 hl0 (s0) iR0 iF0 iT0 a1 n1 c1 R1 F1 T1 hl1 (s1) iR1 iF1 iT1).mono fun e W' ⟨he, bel⟩ => ?_
  subst he
  exact ⟨_, rfl, _, _, _, [], _, [], hW', trodAll_mk1 (shut_bool Try.underlying4 _), (trodAll_cons_mk (Below.trod laidOut (by kernel_rfl) (of_decide_eq_true (by kernel_rfl)) k0 bel lt0) (trodAll_cons_mk (Below.trod laidOut (by kernel_rfl) (of_decide_eq_true (by kernel_rfl)) k1 bel lt1) trodAll_mk0)), rfl, bel.frame _, fun h => by cases h⟩

theorem over : Rows.fnExactUnionRow.holds Try.pinned (OpenSpec.ofChange Rows.fnExactUnionSpec) :=
  OpenClaim.holds_of_wide 4 Try.f4 rfl rfl rfl rfl rfl rfl rfl ⟨rfl, rfl, rfl, rfl, rfl⟩ rfl rfl rfl rfl rfl (by kernel_rfl) Try.func4 (by kernel_rfl)
    (of_decide_eq_true (by kernel_rfl)) (by unfold Func.isWrapper; first | (rw [if_pos (by decide +kernel)]; kernel_rfl) | (rw [if_neg (by decide +kernel)]; exact ⟨rfl, rfl⟩))
    (fun os started H enc _ => lifted os started H enc)
end Go.Proofs.Ytbimcammjohaoac.fnExactUnion

namespace Go.Proofs.Ytbimcammjohaoac
theorem unionHolds : Rows.FnExactUnionSaid := fnExactUnion.over
#print axioms unionHolds
end Go.Proofs.Ytbimcammjohaoac
