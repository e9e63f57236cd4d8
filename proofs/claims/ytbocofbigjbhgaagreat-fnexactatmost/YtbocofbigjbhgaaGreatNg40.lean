import Derived.Test.YtbocofbigjbhgaaGreatNg39
set_option linter.unusedVariables false
set_option linter.unusedSimpArgs false

namespace Go.Proofs.YtbocofbigjbhgaaGreat
open Go.ChangeShapes Go.WideShapes Go.ChangeAt Go.RowKit Go.Maps
structure SCt (w : World) (a x : Option Addr) (S : Sx) : Prop where
  lf : LCap w a S.l
  rn : RSeg w x S.n S.R S.F S.T
theorem SCt.below {w w' : World} {a x : Option Addr} {S : Sx} (h : SCt w a x S) (hb : Below w.heap.size w w') : SCt w' a x S := ⟨h.lf.below hb, h.rn.below hb⟩
set_option maxRecDepth 100000 in
set_option maxHeartbeats 4000000 in
theorem l3EqualX (a x a' x' : Option Addr) (c d c' d' : Nat) (A A' : Sx) (w : World) (hm : A.Sm) (hm' : A'.Sm) (h : SCt w a x A) (h' : SCt w a' x' A') :
    Calls Tryz.prog 16 #[.agg #[.slice a A.l.length c, .slice x A.n d], .agg #[.slice a' A'.l.length c', .slice x' A'.n d']] w fun e w' => e = .returned (.bool (yes (EqS A A'))) ∧ Below w.heap.size w w' := by
  obtain ⟨W, hW⟩ : ∃ W, (w.alloc (.cells #[.slice a A.l.length c, .slice x A.n d] 35)).alloc (.cells #[.slice a' A'.l.length c', .slice x' A'.n d'] 35) = W := ⟨_, rfl⟩
  have b0 : Below w.heap.size w W := by rw [← hW]; exact below2 _ _ _
  have X0 : Bx2 W w.heap.size (.slice a A.l.length c) (.slice x A.n d) := by rw [← hW]; exact (Bx2.made w _ _ _).allocs _
  have Y0 : Bx2 W (w.heap.size + 1) (.slice a' A'.l.length c') (.slice x' A'.n d') := by rw [← hW]; simpa using Bx2.made (w.alloc (.cells #[.slice a A.l.length c, .slice x A.n d] 35)) (.slice a' A'.l.length c') (.slice x' A'.n d') 35
  have HH := hid (h.below b0)
  have HH' := hid (h'.below b0)
  have HB0 := hid b0
  have HX := hid X0
  have HY := hid Y0
  have k0 := X0.c0
  have k1 := X0.c1
  have l0 := Y0.c0
  have l1 := Y0.c1
  obtain ⟨B, hB⟩ : ∃ B, yes (EqS A A') = B := ⟨_, rfl⟩
  have HBV := hid hB
  rw [hB]
  clear b0 X0 Y0 h h' hB
  by_cases h1 : A.l.length = A'.l.length
  case neg =>
    have d1 : ((A.l.length : Int) != (A'.l.length : Int)) = true := by simp; omega
    have HG : Hid (B = false) := hid (by rw [← HBV.out]; exact yes_f (fun e => h1 (by rw [e.1])))
    clear h1 hm hm'
    go_enter Tryz.func16, Tryz.ntmps16
    go_wp2_with fail
    try rw [hW]
    go_ret
    exact ⟨ret_b HG.out.symm, HB0.out⟩
  by_cases h2 : A.n = A'.n
  case neg =>
    obtain ⟨nl, hnl⟩ : ∃ n, A.l.length = n := ⟨_, rfl⟩
    have hnl' : A'.l.length = nl := by omega
    rw [hnl] at k0 hW
    rw [hnl'] at l0 hW
    rw [hnl, hnl']
    have d1 : ((nl : Int) != (nl : Int)) = false := by simp
    have d2 : ((A.n : Int) != (A'.n : Int)) = true := by simp; omega
    have HG : Hid (B = false) := hid (by rw [← HBV.out]; exact yes_f (fun e => h2 e.2.1))
    clear h1 h2 hm hm' hnl hnl' HX HY HH HH' HBV
    go_enter Tryz.func16, Tryz.ntmps16
    go_wp2_with fail
    try rw [hW]
    go_ret
    exact ⟨ret_b HG.out.symm, HB0.out⟩
  obtain ⟨nl, hnl⟩ : ∃ n, A.l.length = n := ⟨_, rfl⟩
  have hnl' : A'.l.length = nl := by omega
  obtain ⟨nr, hnr⟩ : ∃ n, A.n = n := ⟨_, rfl⟩
  have hnr' : A'.n = nr := by omega
  have HNN := hid (And.intro (And.intro hnl hnl') (And.intro hnr hnr'))
  rw [hnl] at k0 hW HX
  rw [hnr] at k1 hW HX
  rw [hnl'] at l0 hW HY
  rw [hnr'] at l1 hW HY
  rw [hnl, hnl', hnr, hnr']
  have z1 : nl ≤ 1048576 := by have := hm.l1; omega
  have z2 : nr ≤ 1048576 := by have := hm.n1; omega
  have d1 : ((nl : Int) != (nl : Int)) = false := by simp
  have d2 : ((nr : Int) != (nr : Int)) = false := by simp
  clear h1 h2 hm hm' hnl hnl' hnr hnr'
  go_enter Tryz.func16, Tryz.ntmps16
  go_wp2_with fail
  try rw [hW]
  clear hW k0 k1 l0 l1
  go_loopw [5] (fun i wr => ∃ j : Nat, j ≤ nl ∧ i = .int .i64 j ∧ Hid (Below W.heap.size W wr) ∧ Hid (∀ t, t < j → gL A.l t = gL A'.l t)) (fun i _ => nl - (intOf i).toNat)
  case atStart => exact ⟨0, Nat.zero_le _, rfl, hid (Below.refl _ _), hid (fun t ht => by omega)⟩
  case round =>
    obtain ⟨j, hj, rfl, HB, HN⟩ := hrel
    have X1 := HX.out.below HB.out HX.out.lt
    have Y1 := HY.out.below HB.out HY.out.lt
    have k0 := X1.c0
    by_cases hlt : j < nl
    · have i1 : (0 : Int) ≤ (j : Int) := Int.natCast_nonneg _
      have i2 : (j : Int) < (nl : Int) := by omega
      obtain ⟨b, off, rfl, hb, hcs⟩ := (HH.out.below HB.out).lf.resolve_left (by have := HNN.out; omega)
      obtain ⟨pa, pc, ⟨c0, d0⟩, sg, c1, c2, c3, c4⟩ := hcs j (by have := HNN.out; omega)
      obtain ⟨b', off', rfl, hb', hcs'⟩ := (HH'.out.below HB.out).lf.resolve_left (by have := HNN.out; omega)
      obtain ⟨pa', pc', ⟨e0, d0'⟩, sg', e1, e2, e3, e4⟩ := hcs' j (by have := HNN.out; omega)
      have HCA := hid (fun w1 (b1 : Below wr.heap.size wr w1) => l3SameC pa pa' pc pc' (gL A.l j).p (gL A'.l j).p (gL A.l j).fl (gL A'.l j).fl (gL A.l j).r (gL A.l j).q (gL A'.l j).r (gL A'.l j).q (gL A.l j).v (gL A'.l j).v w1 d0.1 d0'.1 d0.2 d0'.2 (sg.below b1) (sg'.below b1))
      obtain ⟨y, hy⟩ : ∃ y, gL A.l j = y := ⟨_, rfl⟩
      obtain ⟨z, hz⟩ : ∃ z, gL A'.l j = z := ⟨_, rfl⟩
      rw [hy] at c0 c1 c2 c3 c4
      rw [hz] at e0 e1 e2 e3 e4
      rw [hy, hz] at HCA
      have HYZ := hid (And.intro hy hz)
      obtain ⟨yp, yf, yr, yq, yv⟩ := y
      obtain ⟨zp, zf, zr, zq, zv⟩ := z
      dsimp only at c0 c1 c2 c3 c4 e0 e1 e2 e3 e4 HCA
      obtain ⟨C, hC⟩ : ∃ C, yes ((⟨yp, yf, yr, yq, yv⟩ : Lf) = ⟨zp, zf, zr, zq, zv⟩) = C := ⟨_, rfl⟩
      have HCV := hid hC
      rw [hC] at HCA
      have HCS : Hid (∀ w', Below wr.heap.size wr w' → (w'.cell? ⟨w.heap.size, 0, none⟩ = some (.slice (some ⟨b, off, none⟩) nl c) ∧ w'.cell? ⟨w.heap.size + 1, 0, none⟩ = some (.slice (some ⟨b', off', none⟩) nl c') ∧ w'.cell? ⟨b, off + j * 5, none⟩ = some (.slice pa yp.length pc) ∧ w'.cell? ⟨b, off + j * 5 + 1, none⟩ = some (.bool yf) ∧ w'.cell? ⟨b, off + j * 5 + 2, none⟩ = some (.int .i64 yr) ∧ w'.cell? ⟨b, off + j * 5 + 3, none⟩ = some (.int .i64 yq) ∧ w'.cell? ⟨b, off + j * 5 + 4, none⟩ = some (.string yv) ∧ w'.cell? ⟨b', off' + j * 5, none⟩ = some (.slice pa' zp.length pc') ∧ w'.cell? ⟨b', off' + j * 5 + 1, none⟩ = some (.bool zf) ∧ w'.cell? ⟨b', off' + j * 5 + 2, none⟩ = some (.int .i64 zr) ∧ w'.cell? ⟨b', off' + j * 5 + 3, none⟩ = some (.int .i64 zq) ∧ w'.cell? ⟨b', off' + j * 5 + 4, none⟩ = some (.string zv))) := hid (fun w' b1 => by
        have q := fun o => b1.cell (p := ⟨b, o, none⟩) hb
        have q' := fun o => b1.cell (p := ⟨b', o, none⟩) hb'
        exact ⟨(X1.below b1 X1.lt).c0, (Y1.below b1 Y1.lt).c0, (q _).trans c0, (q _).trans c1, (q _).trans c2, (q _).trans c3, (q _).trans c4, (q' _).trans e0, (q' _).trans e1, (q' _).trans e2, (q' _).trans e3, (q' _).trans e4⟩)
      clear hy hz hC hcs hcs' sg sg' d0 d0'
      go_wp2_with fail
      refine wp_region_held_drew (S := fun w' => w'.cell? ⟨w.heap.size, 0, none⟩ = some (.slice (some ⟨b, off, none⟩) nl c) ∧ w'.cell? ⟨w.heap.size + 1, 0, none⟩ = some (.slice (some ⟨b', off', none⟩) nl c') ∧ w'.cell? ⟨b, off + j * 5, none⟩ = some (.slice pa yp.length pc) ∧ w'.cell? ⟨b, off + j * 5 + 1, none⟩ = some (.bool yf) ∧ w'.cell? ⟨b, off + j * 5 + 2, none⟩ = some (.int .i64 yr) ∧ w'.cell? ⟨b, off + j * 5 + 3, none⟩ = some (.int .i64 yq) ∧ w'.cell? ⟨b, off + j * 5 + 4, none⟩ = some (.string yv) ∧ w'.cell? ⟨b', off' + j * 5, none⟩ = some (.slice pa' zp.length pc') ∧ w'.cell? ⟨b', off' + j * 5 + 1, none⟩ = some (.bool zf) ∧ w'.cell? ⟨b', off' + j * 5 + 2, none⟩ = some (.int .i64 zr) ∧ w'.cell? ⟨b', off' + j * 5 + 3, none⟩ = some (.int .i64 zq) ∧ w'.cell? ⟨b', off' + j * 5 + 4, none⟩ = some (.string zv)) (by kernel_rfl) (HCS.out _ (Below.refl _ _).drew) (fun hHeld => ?_)
      clear k0 X1 Y1 c0 c1 c2 c3 c4 e0 e1 e2 e3 e4
      refine tk 0 32 ?_ (by kernel_rfl) (by kernel_rfl) (fun _ _ _ h => h) ?_ hHeld ?_
      rotate_left
      · (intro o ho; simp only [gZa, gZb, gZc, gZd] at ho; subst ho; refine Or.inl ⟨by rfl, ?_⟩; intro w hSw; (try dsimp only at hSw); go_simp; try with_reducible rfl)
      try simp only [Act.put, sZa, sZb, sZc]
      refine tk 1 33 ?_ (by kernel_rfl) (by kernel_rfl) (fun _ _ _ h => h) ?_ hHeld ?_
      rotate_left
      · (intro o ho; simp only [gZa, gZb, gZc, gZd] at ho; subst ho; refine Or.inl ⟨by rfl, ?_⟩; intro w hSw; (try dsimp only at hSw); go_simp; try with_reducible rfl)
      try simp only [Act.put, sZa, sZb, sZc]
      refine tk 2 34 ?_ (by kernel_rfl) (by kernel_rfl) (fun _ _ _ h => h) ?_ hHeld ?_
      rotate_left
      · (intro o ho; simp only [gZa, gZb, gZc, gZd] at ho; subst ho; refine Or.inl ⟨by rfl, ?_⟩; intro w hSw; (try dsimp only at hSw); go_simp; try with_reducible rfl)
      try simp only [Act.put, sZa, sZb, sZc]
      refine tk 3 35 ?_ (by kernel_rfl) (by kernel_rfl) (fun _ _ _ h => h) ?_ hHeld ?_
      rotate_left
      · (intro o ho; simp only [gZa, gZb, gZc, gZd] at ho; subst ho; refine Or.inl ⟨by rfl, ?_⟩; intro w hSw; (try dsimp only at hSw); go_simp; try with_reducible rfl)
      try simp only [Act.put, sZa, sZb, sZc]
      refine tk 4 36 ?_ (by kernel_rfl) (by kernel_rfl) (fun _ _ _ h => h) ?_ hHeld ?_
      rotate_left
      · (intro o ho; simp only [gZa, gZb, gZc, gZd] at ho; subst ho; refine Or.inl ⟨by rfl, ?_⟩; intro w hSw; (try dsimp only at hSw); go_simp; try with_reducible rfl)
      try simp only [Act.put, sZa, sZb, sZc]
      refine tk 5 37 ?_ (by kernel_rfl) (by kernel_rfl) (fun _ _ _ h => h) ?_ hHeld ?_
      rotate_left
      · (intro o ho; simp only [gZa, gZb, gZc, gZd] at ho; subst ho; refine Or.inl ⟨by rfl, ?_⟩; intro w hSw; (try dsimp only at hSw); go_simp; try with_reducible rfl)
      try simp only [Act.put, sZa, sZb, sZc]
      refine tk 6 38 ?_ (by kernel_rfl) (by kernel_rfl) (fun _ _ _ h => h) ?_ hHeld ?_
      rotate_left
      · (intro o ho; simp only [gZa, gZb, gZc, gZd] at ho; subst ho; refine Or.inl ⟨by rfl, ?_⟩; intro w hSw; (try dsimp only at hSw); go_simp; try with_reducible rfl)
      try simp only [Act.put, sZa, sZb, sZc]
      refine tk 7 39 ?_ (by kernel_rfl) (by kernel_rfl) (fun _ _ _ h => h) ?_ hHeld ?_
      rotate_left
      · (intro o ho; simp only [gZa, gZb, gZc, gZd] at ho; subst ho; refine Or.inl ⟨by rfl, ?_⟩; intro w hSw; (try dsimp only at hSw); go_simp; try with_reducible rfl)
      try simp only [Act.put, sZa, sZb, sZc]
      refine tk 8 40 ?_ (by kernel_rfl) (by kernel_rfl) (fun _ _ _ h => h) ?_ hHeld ?_
      rotate_left
      · (intro o ho; simp only [gZa, gZb, gZc, gZd] at ho; subst ho; refine Or.inl ⟨by rfl, ?_⟩; intro w hSw; (try dsimp only at hSw); go_simp; try with_reducible rfl)
      try simp only [Act.put, sZa, sZb, sZc]
      refine tk 9 41 ?_ (by kernel_rfl) (by kernel_rfl) (fun _ _ _ h => h) ?_ hHeld ?_
      rotate_left
      · (intro o ho; simp only [gZa, gZb, gZc, gZd] at ho; subst ho; refine Or.inl ⟨by rfl, ?_⟩; intro w hSw; (try dsimp only at hSw); go_simp; try with_reducible rfl)
      try simp only [Act.put, sZa, sZb, sZc]
      refine call1 (i := 10) (d := some 42) (by kernel_rfl) (by kernel_rfl) ?_
      intro o ho hod K hK; simp only [gZa, gZb, gZc, gZd] at ho; subst ho
      go_simp
      refine (HCA.out _ (Below.refl _ _).drew).mono ?_
      rintro e w1 ⟨rfl, b1⟩
      have b1' : Below wr.heap.size wr w1 := ⟨b1.os, b1.tape, b1.output, b1.size, b1.block⟩
      refine hK.out _ _ (HCS.out _ b1') (fun hHeld => ?_)
      clear hK K
      try simp only [Act.put, sZa, sZb, sZc]
      refine tk 11 43 ?_ (by kernel_rfl) (by kernel_rfl) (fun _ _ _ h => h) ?_ hHeld ?_
      rotate_left
      · (intro o ho; simp only [gZa, gZb, gZc, gZd] at ho; subst ho; refine Or.inl ⟨by rfl, ?_⟩; intro w hSw; (try dsimp only at hSw); go_simp; try with_reducible rfl)
      try simp only [Act.put, sZa, sZb, sZc]
      refine wpAnyH_done (by kernel_rfl) ?_ _
      have HB1 := hid (HB.out.trans (b1'.mono HB.out.size))
      clear hHeld b1 b1' HCS HCA
      cases C with
      | true =>
        have HN1 : Hid (∀ t, t < j + 1 → gL A.l t = gL A'.l t) := hid (fun t ht => by
          by_cases e : t = j
          · rw [e, HYZ.out.1, HYZ.out.2]; exact Classical.byContradiction fun hn => by have := HCV.out; rw [yes_f hn] at this; cases this
          · exact HN.out t (by omega))
        clear HN HB
        go_wp2_with fail
        go_roundw
        case rel => exact ⟨j + 1, hlt, by go_num, HB1, HN1⟩
        case measure => simp [intOf]; omega
      | false =>
        have HG : Hid (B = false) := hid (by
          rw [← HBV.out]
          refine yes_f fun e => ?_
          have := HCV.out
          rw [yes_t (by rw [← HYZ.out.1, ← HYZ.out.2, e.1])] at this
          cases this)
        go_wp2_with fail
        go_ret
        exact ⟨ret_b HG.out.symm, keepS HB0.out HB1.out⟩
    · obtain rfl : j = nl := by omega
      have HAL : Hid (A.l = A'.l) := hid (gL_all (by have := HNN.out; omega) (fun i hi => HN.out i (by have := HNN.out; omega)))
      obtain ⟨U, hU⟩ : ∃ U, U = wr := ⟨_, rfl⟩
      subst hU
      have HX1 := hid X1
      have HY1 := hid Y1
      clear X1 Y1 HN
      go_wp2_with fail
      clear k0
      go_loopw [6] (fun i wr => ∃ k : Nat, k ≤ nr ∧ i = .int .i64 k ∧ Hid (Below U.heap.size U wr) ∧ Hid (∀ t, t < k → A.R t = A'.R t ∧ A.F t = A'.F t ∧ A.T t = A'.T t)) (fun i _ => nr - (intOf i).toNat)
      case atStart => exact ⟨0, Nat.zero_le _, rfl, hid (Below.refl _ _), hid (fun t ht => by omega)⟩
      case round =>
        obtain ⟨k, hk, rfl, HB2, HN⟩ := hrel
        have X1 := HX1.out.below HB2.out HX1.out.lt
        have Y1 := HY1.out.below HB2.out HY1.out.lt
        have k1 := X1.c1
        have l1 := Y1.c1
        by_cases hlt : k < nr
        · have i1 : (0 : Int) ≤ (k : Int) := Int.natCast_nonneg _
          have i2 : (k : Int) < (nr : Int) := by omega
          obtain ⟨b, o, rfl, hb, c0, c1, c2⟩ := ((HH.out.below HB.out).below HB2.out).rn.at (k := k) (by have := HNN.out; omega)
          obtain ⟨b', o', rfl, hb', e0, e1, e2⟩ := ((HH'.out.below HB.out).below HB2.out).rn.at (k := k) (by have := HNN.out; omega)
          obtain ⟨r, hr⟩ : ∃ y, A.R k = y := ⟨_, rfl⟩
          obtain ⟨f, hf⟩ : ∃ y, A.F k = y := ⟨_, rfl⟩
          obtain ⟨t, ht⟩ : ∃ y, A.T k = y := ⟨_, rfl⟩
          obtain ⟨r', hr'⟩ : ∃ y, A'.R k = y := ⟨_, rfl⟩
          obtain ⟨f', hf'⟩ : ∃ y, A'.F k = y := ⟨_, rfl⟩
          obtain ⟨t', ht'⟩ : ∃ y, A'.T k = y := ⟨_, rfl⟩
          rw [hr] at c0
          rw [hf] at c1
          rw [ht] at c2
          rw [hr'] at e0
          rw [hf'] at e1
          rw [ht'] at e2
          have HV := hid (And.intro (And.intro hr (And.intro hf ht)) (And.intro hr' (And.intro hf' ht')))
          have NQ : ∀ w : World, (binOp .neq 76 (.agg #[.int .i64 r, .int .i64 f, .int .i64 t]) (.agg #[.int .i64 r', .int .i64 f', .int .i64 t'])).run Tryz.prog w = .ok (.bool (!(r == r' && (f == f' && t == t')))) w := fun w => neqRun r f t r' f' t' w
          by_cases he : r = r' ∧ f = f' ∧ t = t'
          · have q1 : (!(r == r' && (f == f' && t == t'))) = false := by simp [he.1, he.2.1, he.2.2]
            rw [q1] at NQ
            have HN1 : Hid (∀ u, u < k + 1 → A.R u = A'.R u ∧ A.F u = A'.F u ∧ A.T u = A'.T u) := hid (fun u hu => by
              by_cases e : u = k
              · have h1 := HV.out
                rw [e, h1.1.1, h1.1.2.1, h1.1.2.2, h1.2.1, h1.2.2.1, h1.2.2.2]; exact he
              · exact HN.out u (by omega))
            clear he q1 hr hf ht hr' hf' ht' X1 Y1
            go_wp2_with fail
            go_region
            go_wp2_with fail
            go_roundw
            case rel => exact ⟨k + 1, hlt, by go_num, hid HB2.out.drew, HN1⟩
            case measure => simp [intOf]; omega
          · have q1 : (!(r == r' && (f == f' && t == t'))) = true := by
              cases hb : (r == r' && (f == f' && t == t')) with
              | false => rfl
              | true => exact absurd (by simpa using hb) he
            rw [q1] at NQ
            have HG : Hid (B = false) := hid (by
              rw [← HBV.out]
              refine yes_f fun e => he ?_
              have h1 := HV.out
              have h2 := e.2.2 k (by have := HNN.out; omega)
              rw [h1.1.1, h1.1.2.1, h1.1.2.2, h1.2.1, h1.2.2.1, h1.2.2.2] at h2; exact h2)
            clear he q1 hr hf ht hr' hf' ht' X1 Y1
            go_wp2_with fail
            go_region
            go_wp2_with fail
            go_ret
            exact ⟨ret_b HG.out.symm, keepS HB0.out (keepS HB.out HB2.out.drew)⟩
        · obtain rfl : k = nr := by omega
          have HG : Hid (B = true) := hid (by rw [← HBV.out]; exact yes_t ⟨HAL.out, by have := HNN.out; omega, fun i hi => HN.out i (by have := HNN.out; omega)⟩)
          clear X1 Y1
          go_wp2_with fail
          go_ret
          exact ⟨ret_b HG.out.symm, keepS HB0.out (keepS HB.out HB2.out)⟩
end Go.Proofs.YtbocofbigjbhgaaGreat

namespace Go.Proofs.YtbocofbigjbhgaaGreat
open Go.ChangeShapes Go.WideShapes Go.ChangeAt Go.RowKit Go.Maps
noncomputable def amB (S S' : Sx) : Bool := jnB S S' && yes (EqS (jnZ S S') S')
set_option maxRecDepth 100000 in
set_option maxHeartbeats 2000000 in
theorem specAtMostC (g k g' k' c d c' d' lo hi lo' hi' : Nat) (S S' : Sx) (w : World) (hm : S.Sm) (hm' : S'.Sm) (h : SNw w lo hi g k S) (h' : SNw w lo' hi' g' k' S') :
    Calls Tryz.prog 6 #[.agg #[.slice (some ⟨g, 0, none⟩) S.l.length c, .slice (some ⟨k, 0, none⟩) S.n d], .agg #[.slice (some ⟨g', 0, none⟩) S'.l.length c', .slice (some ⟨k', 0, none⟩) S'.n d']] w fun e w' => e = .returned (.bool (amB S S')) ∧ Below w.heap.size w w' := by
  obtain ⟨W, hW⟩ : ∃ W, (w.alloc (.cells #[.slice (some ⟨g, 0, none⟩) S.l.length c, .slice (some ⟨k, 0, none⟩) S.n d] 35)).alloc (.cells #[.slice (some ⟨g', 0, none⟩) S'.l.length c', .slice (some ⟨k', 0, none⟩) S'.n d'] 35) = W := ⟨_, rfl⟩
  have b0 : Below w.heap.size w W := by rw [← hW]; exact below2 _ _ _
  have X0 : Bx2 W w.heap.size (.slice (some ⟨g, 0, none⟩) S.l.length c) (.slice (some ⟨k, 0, none⟩) S.n d) := by rw [← hW]; exact (Bx2.made w _ _ _).allocs _
  have Y0 : Bx2 W (w.heap.size + 1) (.slice (some ⟨g', 0, none⟩) S'.l.length c') (.slice (some ⟨k', 0, none⟩) S'.n d') := by rw [← hW]; simpa using Bx2.made (w.alloc (.cells #[.slice (some ⟨g, 0, none⟩) S.l.length c, .slice (some ⟨k, 0, none⟩) S.n d] 35)) (.slice (some ⟨g', 0, none⟩) S'.l.length c') (.slice (some ⟨k', 0, none⟩) S'.n d') 35
  have HJ := hid (specJoinC g k g' k' c d c' d' lo hi lo' hi' S S' W hm hm' (h.below b0) (h'.below b0))
  have HZS := hid (jnZ_sm S S')
  have HEQ : Hid (∀ w1 ja jm jx jt, Below W.heap.size W w1 → SCt w1 ja jx (jnZ S S') → Calls Tryz.prog 16 #[.agg #[.slice ja (jnZ S S').l.length jm, .slice jx (jnZ S S').n jt], .agg #[.slice (some ⟨g', 0, none⟩) S'.l.length c', .slice (some ⟨k', 0, none⟩) S'.n d']] w1 fun e w' => e = .returned (.bool (yes (EqS (jnZ S S') S'))) ∧ Below w1.heap.size w1 w') := hid (fun w1 ja jm jx jt b1 hj => by have hb := (h'.below b0).below b1; exact l3EqualX ja jx (some ⟨g', 0, none⟩) (some ⟨k', 0, none⟩) jm jt c' d' (jnZ S S') S' w1 HZS.out hm' hj ⟨hb.cap.cap, hb.rn⟩)
  obtain ⟨JL, hJL⟩ : ∃ JL, (jnZ S S').l.length = JL := ⟨_, rfl⟩
  obtain ⟨JU, hJU⟩ : ∃ JU, (jnZ S S').n = JU := ⟨_, rfl⟩
  obtain ⟨V, hV⟩ : ∃ V, jnB S S' = V := ⟨_, rfl⟩
  obtain ⟨E, hE⟩ : ∃ E, yes (EqS (jnZ S S') S') = E := ⟨_, rfl⟩
  obtain ⟨B, hB⟩ : ∃ B, amB S S' = B := ⟨_, rfl⟩
  have HBV : Hid (B = (V && E)) := hid (by rw [← hB, ← hV, ← hE]; rfl)
  rw [hJL, hJU, hV] at HJ
  rw [hJL, hJU, hE] at HEQ
  rw [hB]
  have HB0 := hid b0
  have HX := hid X0
  have HY := hid Y0
  have k0 := X0.c0
  have k1 := X0.c1
  have l0 := Y0.c0
  have l1 := Y0.c1
  clear b0 X0 Y0 hJL hJU hV hE hB
  go_enter Tryz.func6, Tryz.ntmps6
  go_wp2_with fail
  try rw [hW]
  clear hW
  refine HJ.out.mono ?_
  rintro e w1 ⟨ja, jm, jx, jt, rfl, so, b1⟩
  obtain ⟨w2, hw2⟩ : ∃ w2, w1.alloc (.cells #[.slice ja JL jm, .slice jx JU jt] 35) = w2 := ⟨_, rfl⟩
  have b2 : Below w1.heap.size w1 w2 := by rw [← hw2]; exact (Below.refl _ _).alloc (Nat.le_refl _) _
  have X2 : Bx2 w2 w1.heap.size (.slice ja JL jm) (.slice jx JU jt) := by rw [← hw2]; exact Bx2.made _ _ _ _
  have B02 := keepS b1 b2
  have HB2 := hid (keepS HB0.out B02)
  have HCA := hid (HEQ.out w2 ja jm jx jt B02 (by have h := (so.below b2).at; exact ⟨h.1, h.2⟩))
  have Y2 := HY.out.below B02 HY.out.lt
  have m0 := X2.c0
  have m1 := X2.c1
  have m2 := Y2.c0
  have m3 := Y2.c1
  clear so b1 b2 X2 Y2 B02 k0 k1 l0 l1 HJ HEQ
  cases V with
  | false =>
    have HG : Hid (B = false) := hid HBV.out
    go_wp2_with fail
    try rw [hw2]
    go_ret
    exact ⟨ret_b HG.out.symm, HB2.out⟩
  | true =>
    have HG : Hid (B = E) := hid (by have := HBV.out; simpa using this)
    go_wp2_with fail
    try rw [hw2]
    clear hw2
    refine HCA.out.mono ?_
    rintro e w3 ⟨rfl, b3⟩
    have HB3 := hid (keepS HB2.out b3)
    clear b3
    go_wp2_with fail
    go_ret
    exact ⟨ret_b HG.out.symm, HB3.out⟩
set_option maxRecDepth 100000 in
set_option maxHeartbeats 2000000 in
theorem implAtMostC (a x a' x' : Option Addr) (c d c' d' : Nat) (S S' : Sx) (w : World) (hm : S.Sm) (hm' : S'.Sm) (hi : ∀ i, LfI (gL S.l i)) (hi' : ∀ i, LfI (gL S'.l i)) (h : SAt w a x S) (h' : SAt w a' x' S') :
    Calls Tryz.prog 8 #[.agg #[.slice a S.l.length c, .slice x S.n d], .agg #[.slice a' S'.l.length c', .slice x' S'.n d']] w fun e w' => e = .returned (.bool (amB S S')) ∧ Below w.heap.size w w' := by
  obtain ⟨W, hW⟩ : ∃ W, (w.alloc (.cells #[.slice a S.l.length c, .slice x S.n d] 35)).alloc (.cells #[.slice a' S'.l.length c', .slice x' S'.n d'] 35) = W := ⟨_, rfl⟩
  have b0 : Below w.heap.size w W := by rw [← hW]; exact below2 _ _ _
  have X0 : Bx2 W w.heap.size (.slice a S.l.length c) (.slice x S.n d) := by rw [← hW]; exact (Bx2.made w _ _ _).allocs _
  have Y0 : Bx2 W (w.heap.size + 1) (.slice a' S'.l.length c') (.slice x' S'.n d') := by rw [← hW]; simpa using Bx2.made (w.alloc (.cells #[.slice a S.l.length c, .slice x S.n d] 35)) (.slice a' S'.l.length c') (.slice x' S'.n d') 35
  have HJ := hid (implJoinC a x a' x' c d c' d' S S' W hm hm' hi hi' (h.below b0) (h'.below b0))
  have HZS := hid (jnZ_sm S S')
  have HEQ : Hid (∀ w1 ja jm jx jt, Below W.heap.size W w1 → SAt w1 ja jx (jnZ S S') → Calls Tryz.prog 19 #[.agg #[.slice ja (jnZ S S').l.length jm, .slice jx (jnZ S S').n jt], .agg #[.slice a' S'.l.length c', .slice x' S'.n d']] w1 fun e w' => e = .returned (.bool (yes (EqS (jnZ S S') S'))) ∧ Below w1.heap.size w1 w') := hid (fun w1 ja jm jx jt b1 hj => by have hb := (h'.below b0).below b1; exact sameStateX ja jx a' x' jm jt c' d' (jnZ S S') S' w1 HZS.out hm' hj hb)
  obtain ⟨JL, hJL⟩ : ∃ JL, (jnZ S S').l.length = JL := ⟨_, rfl⟩
  obtain ⟨JU, hJU⟩ : ∃ JU, (jnZ S S').n = JU := ⟨_, rfl⟩
  obtain ⟨V, hV⟩ : ∃ V, jnB S S' = V := ⟨_, rfl⟩
  obtain ⟨E, hE⟩ : ∃ E, yes (EqS (jnZ S S') S') = E := ⟨_, rfl⟩
  obtain ⟨B, hB⟩ : ∃ B, amB S S' = B := ⟨_, rfl⟩
  have HBV : Hid (B = (V && E)) := hid (by rw [← hB, ← hV, ← hE]; rfl)
  rw [hJL, hJU, hV] at HJ
  rw [hJL, hJU, hE] at HEQ
  rw [hB]
  have HB0 := hid b0
  have HX := hid X0
  have HY := hid Y0
  have k0 := X0.c0
  have k1 := X0.c1
  have l0 := Y0.c0
  have l1 := Y0.c1
  clear b0 X0 Y0 hJL hJU hV hE hB
  go_enter Tryz.func8, Tryz.ntmps8
  go_wp2_with fail
  try rw [hW]
  clear hW
  refine HJ.out.mono ?_
  rintro e w1 ⟨ja, jm, jx, jt, rfl, so, b1⟩
  obtain ⟨w2, hw2⟩ : ∃ w2, w1.alloc (.cells #[.slice ja JL jm, .slice jx JU jt] 35) = w2 := ⟨_, rfl⟩
  have b2 : Below w1.heap.size w1 w2 := by rw [← hw2]; exact (Below.refl _ _).alloc (Nat.le_refl _) _
  have X2 : Bx2 w2 w1.heap.size (.slice ja JL jm) (.slice jx JU jt) := by rw [← hw2]; exact Bx2.made _ _ _ _
  have B02 := keepS b1 b2
  have HB2 := hid (keepS HB0.out B02)
  have HCA := hid (HEQ.out w2 ja jm jx jt B02 ((so.below b2).at))
  have Y2 := HY.out.below B02 HY.out.lt
  have m0 := X2.c0
  have m1 := X2.c1
  have m2 := Y2.c0
  have m3 := Y2.c1
  clear so b1 b2 X2 Y2 B02 k0 k1 l0 l1 HJ HEQ
  cases V with
  | false =>
    have HG : Hid (B = false) := hid HBV.out
    go_wp2_with fail
    try rw [hw2]
    go_ret
    exact ⟨ret_b HG.out.symm, HB2.out⟩
  | true =>
    have HG : Hid (B = E) := hid (by have := HBV.out; simpa using this)
    go_wp2_with fail
    try rw [hw2]
    clear hw2
    refine HCA.out.mono ?_
    rintro e w3 ⟨rfl, b3⟩
    have HB3 := hid (keepS HB2.out b3)
    clear b3
    go_wp2_with fail
    go_ret
    exact ⟨ret_b HG.out.symm, HB3.out⟩
end Go.Proofs.YtbocofbigjbhgaaGreat

