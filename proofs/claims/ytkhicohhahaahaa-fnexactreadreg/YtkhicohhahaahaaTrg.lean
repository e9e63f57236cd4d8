import Derived.Test.YtkhicohhahaahaaTrf
namespace Go.Proofs.Ytkhicohhahaahaa
open Go.ChangeShapes Go.WideShapes Go.ChangeAt Go.RowKit Go.Maps
set_option linter.unusedVariables false
set_option linter.unusedSimpArgs false

theorem ready2t {P : Program} {ops : Array Oper} {Q : Exit → Act → World → Prop} {md : Region.Mode} {S : World → Prop} {i j : Nat} {d d' : Option Tmp} {fuel : Nat} {listed : Array Bool} {a : Act} {w : World}
    (hd : ops[i]?.map (fun o => o.dst) = some d) (hd' : ops[j]?.map (fun o => o.dst) = some d') (hr : Region.ready md ops listed = [i, j])
    (h : ∀ o, ops[i]? = some o → o.dst = d → ∀ K' : Act → World → Prop, Shut (∀ a w, S w → (S w → wpAnyH P md ops Q S fuel (listed.setIfInBounds i true) a w) → K' a w) → if Region.wanted o (yielded ops a.tmps) = true then Oper.wp P o a w K' Q else K' (a.put o.dst undef) w)
    (h' : ∀ o, ops[j]? = some o → o.dst = d' → ∀ K' : Act → World → Prop, Shut (∀ a w, S w → (S w → wpAnyH P md ops Q S fuel (listed.setIfInBounds j true) a w) → K' a w) → if Region.wanted o (yielded ops a.tmps) = true then Oper.wp P o a w K' Q else K' (a.put o.dst undef) w) :
    wpAnyH P md ops Q S (fuel + 1) listed a w := by
  obtain ⟨o, ho, hod⟩ := Option.map_eq_some_iff.1 hd
  obtain ⟨o', ho', hod'⟩ := Option.map_eq_some_iff.1 hd'
  exact wpAnyH_ready hr (by simp) (AllReadyH.cons ho (h o ho hod) (AllReadyH.cons ho' (h' o' ho' hod') AllReadyH.nil))

def mF (o : Option (Nat × Nat)) : Option Nat := o.map Prod.fst
def mS (o : Option (Nat × Nat)) : Option Nat := o.map Prod.snd
theorem nodV_eq (o : Option (Nat × Nat)) : nodV o = .agg #[.map (mF o), .map (mS o)] := by cases o <;> rfl
theorem Tre.look {w : World} {B c : Nat} {N : List Ky → Option (Nat × Nat)} {M : List Ky → Dt → Option ByteArray} (h : Tre w B N M c) (p : List Ky) (y : Ky) {kl : Lit} (hk : keyOf Try.prog 91 (keyV y) = some kl) :
    (Instr.lookup 56 (.map (mF (N p))) (keyV y) false).run Try.prog w = .ok (.agg #[.map (mF (N (p ++ [y]))), .map (mS (N (p ++ [y])))]) w := by
  rw [← nodV_eq]
  cases e : N p with
  | some x => exact (h.kids p x e).look keyKeyed Try.underlying56 (zeroNode w) hk
  | none =>
    rw [h.up p y e]
    exact Maps.look_nil false keyKeyed Try.underlying56 (zeroNode w) hk

set_option maxRecDepth 100000 in
set_option maxHeartbeats 2000000 in
theorem atC (p : List ByteArray) (a : Option Addr) (cp : Nat) (k : Int) (B c : Nat) (N : List Ky → Option (Nat × Nat)) (M : List Ky → Dt → Option ByteArray) (w : World)
    (hp : p.length ≤ 1048576) (hs : ∀ i, (gS p i).size ≤ 1048576) (hk : (Lit.int .i64 k).wf = true) (h : SSeg w a p) (hT : Tre w B N M c) :
    Calls Try.prog 25 #[.agg #[.map (mF (N [])), .map (mS (N []))], .slice a p.length cp, .int .i64 k] w fun e w' => e = .returned (.agg #[.map (mF (N (wayOf p k))), .map (mS (N (wayOf p k)))]) ∧ Below w.heap.size w w' := by
  obtain ⟨u0, hu0⟩ : ∃ u, mF (N []) = u := ⟨_, rfl⟩
  obtain ⟨u1, hu1⟩ : ∃ u, mS (N []) = u := ⟨_, rfl⟩
  rw [hu0, hu1]
  obtain ⟨W, hW⟩ : ∃ W, (w.alloc (.cells #[.map u0, .map u1] 59)).alloc (.cells #[.map none, .map none] 59) = W := ⟨_, rfl⟩
  have b0 : Below w.heap.size w W := by rw [← hW]; exact below2 _ _ _
  have P0 : Bx2 W w.heap.size (.map u0) (.map u1) := by rw [← hW]; exact (Bx2.made w _ _ _).allocs _
  have P1 : Bx2 W (w.heap.size + 1) (.map none) (.map none) := by rw [← hW]; simpa using Bx2.made (w.alloc (.cells #[.map u0, .map u1] 59)) (.map none) (.map none) 59
  have HS := hid h
  have HP0 := hid P0
  have HP1 := hid P1
  have HT := hid hT
  have HB0 := hid b0
  have HU := hid (And.intro hu0 hu1)
  have Hs := hid hs
  clear h hT b0 P0 P1 hs hu0 hu1
  go_enter Try.func25, Try.ntmps25
  go_wp2_with fail
  try rw [hW]
  clear hW
  go_loopw [10] (fun i wr => ∃ j : Nat, j ≤ p.length ∧ i = .int .i64 j ∧ Hid (Below w.heap.size w wr) ∧ (∃ u v, Hid (mF (N ((wayOf p k).take j)) = u ∧ mS (N ((wayOf p k).take j)) = v) ∧ Hid (Bx2 wr w.heap.size (.map u) (.map v)) ∧ Hid (Bx2 wr (w.heap.size + 1) (.map none) (.map none)))) (fun i _ => p.length - (intOf i).toNat)
  case atStart => exact ⟨0, Nat.zero_le _, rfl, HB0, u0, u1, hid (by simpa using HU.out), HP0, HP1⟩
  case round =>
    clear HP0 HP1 HB0 HU
    obtain ⟨j, hj, rfl, HB, u, v, HU, HP, HR⟩ := hrel
    by_cases hlt : j < p.length
    · have i1 : (0 : Int) ≤ (j : Int) := Int.natCast_nonneg _
      have i2 : (j : Int) < (p.length : Int) := by omega
      obtain ⟨nm, kd, hkey⟩ : ∃ nm kd, onWay p k j = (nm, kd) := ⟨_, _, rfl⟩
      obtain ⟨kl, hkl⟩ : ∃ kl, keyOf Try.prog 91 (keyV (nm, kd)) = some kl := by
        unfold onWay at hkey
        have e1 := (Prod.mk.inj hkey).1
        have e2 := (Prod.mk.inj hkey).2
        refine keyKey ?_ ?_
        · rw [← e1]; have := Hs.out j; unfold maxLen; omega
        · rw [← e2]; split
          · decide
          · exact hk
      have hst : (wayOf p k).take (j + 1) = (wayOf p k).take j ++ [(nm, kd)] := by rw [wayOf_take hlt]; have := hkey; unfold onWay at this; rw [this]
      have HKW : Hid (∀ w1, Below wr.heap.size wr w1 → Calls Try.prog 44 #[.slice a p.length cp, .int .i64 j, .int .i64 k] w1 fun e w' => e = .returned (.agg #[.string nm, .int .i64 kd]) ∧ Below w1.heap.size w1 w') := hid (fun w1 b1 => by
        have := keyOnWay p a cp k j w1 hp hlt (HS.out.below (HB.out.trans (b1.mono HB.out.size)))
        rw [hkey] at this; exact this)
      obtain ⟨u', hu'⟩ : ∃ u', mF (N ((wayOf p k).take (j + 1))) = u' := ⟨_, rfl⟩
      obtain ⟨v', hv'⟩ : ∃ v', mS (N ((wayOf p k).take (j + 1))) = v' := ⟨_, rfl⟩
      have HU' := hid (And.intro hu' hv')
      have HLK : Hid (∀ w1, Below wr.heap.size wr w1 → (Instr.lookup 56 (.map u) (.agg #[.string nm, .int .i64 kd]) false).run Try.prog w1 = .ok (.agg #[.map u', .map v']) w1) := hid (fun w1 b1 => by
        have := (HT.out.below (HB.out.trans (b1.mono HB.out.size))).look ((wayOf p k).take j) (nm, kd) hkl
        rw [← hst, hu', hv', HU.out.1] at this; exact this)
      have n0 := HP.out.c0
      have zb := HP.out.lt
      have HZ : Hid (∀ w1, Below wr.heap.size wr w1 → w1.cell? ⟨w.heap.size, 0, none⟩ = some (.map u) ∧ w1.cell? ⟨w.heap.size, 1, none⟩ = some (.map v) ∧ w1.frozen? ⟨w.heap.size, 0, none⟩ = false ∧ w1.frozen? ⟨w.heap.size, 1, none⟩ = false ∧ Below w.heap.size w ((w1.setCell ⟨w.heap.size, 0, none⟩ (.map u')).setCell ⟨w.heap.size, 1, none⟩ (.map v')) ∧ Bx2 ((w1.setCell ⟨w.heap.size, 0, none⟩ (.map u')).setCell ⟨w.heap.size, 1, none⟩ (.map v')) w.heap.size (.map u') (.map v') ∧ Bx2 ((w1.setCell ⟨w.heap.size, 0, none⟩ (.map u')).setCell ⟨w.heap.size, 1, none⟩ (.map v')) (w.heap.size + 1) (.map none) (.map none)) := hid (fun w1 b1 => by
        have P := HP.out.below b1 HP.out.lt
        exact ⟨P.c0, P.c1, P.f 0, P.f 1, ((HB.out.trans (b1.mono HB.out.size)).setCell (p := ⟨w.heap.size, 0, none⟩) (Nat.le_refl _) _).setCell (p := ⟨w.heap.size, 1, none⟩) (Nat.le_refl _) _, P.set _ _, ((HR.out.below b1 HR.out.lt).setAt _ _ (by simp)).setAt _ _ (by simp)⟩)
      clear hkey hkl hst hu' hv' HB HP HR HU
      go_wp2_with fail
      refine wp_region_held_drew (S := fun w' => True) (by kernel_rfl) trivial (fun hHeld => ?_)
      refine take1 (i := 0) (d := some 13) (v := ?_) (by kernel_rfl) (by kernel_rfl) (by kernel_rfl) (by kernel_rfl) (fun _ _ _ h => h) ?_ hHeld ?_
      rotate_left
      · (intro o ho; simp only [List.getElem?_toArray, List.getElem?_cons_succ, List.getElem?_cons_zero, Option.some.injEq] at ho; subst ho; refine Or.inl ⟨by rfl, ?_⟩; intro w hSw; (try dsimp only at hSw); go_simp; try with_reducible rfl)
      try simp only [Act.put, List.setIfInBounds_toArray, List.set_cons_zero, List.set_cons_succ]
      refine take1 (i := 2) (d := some 15) (v := ?_) (by kernel_rfl) (by kernel_rfl) (by kernel_rfl) (by kernel_rfl) (fun _ _ _ h => h) ?_ hHeld ?_
      rotate_left
      · (intro o ho; simp only [List.getElem?_toArray, List.getElem?_cons_succ, List.getElem?_cons_zero, Option.some.injEq] at ho; subst ho; refine Or.inl ⟨by rfl, ?_⟩; intro w hSw; (try dsimp only at hSw); go_simp; try with_reducible rfl)
      try simp only [Act.put, List.setIfInBounds_toArray, List.set_cons_zero, List.set_cons_succ]
      refine take1 (i := 3) (d := some 16) (v := ?_) (by kernel_rfl) (by kernel_rfl) (by kernel_rfl) (by kernel_rfl) (fun _ _ _ h => h) ?_ hHeld ?_
      rotate_left
      · (intro o ho; simp only [List.getElem?_toArray, List.getElem?_cons_succ, List.getElem?_cons_zero, Option.some.injEq] at ho; subst ho; refine Or.inl ⟨by rfl, ?_⟩; intro w hSw; (try dsimp only at hSw); go_simp; try with_reducible rfl)
      try simp only [Act.put, List.setIfInBounds_toArray, List.set_cons_zero, List.set_cons_succ]
      refine take1 (i := 4) (d := some 17) (v := ?_) (by kernel_rfl) (by kernel_rfl) (by kernel_rfl) (by kernel_rfl) (fun _ _ _ h => h) ?_ hHeld ?_
      rotate_left
      · (intro o ho; simp only [List.getElem?_toArray, List.getElem?_cons_succ, List.getElem?_cons_zero, Option.some.injEq] at ho; subst ho; refine Or.inl ⟨by rfl, ?_⟩; intro w hSw; (try dsimp only at hSw); go_simp; try with_reducible rfl)
      try simp only [Act.put, List.setIfInBounds_toArray, List.set_cons_zero, List.set_cons_succ]
      refine ready2t (i := 1) (j := 5) (d := some 14) (d' := some 18) (by kernel_rfl) (by kernel_rfl) (by kernel_rfl) ?_ ?_
      ·
        intro o ho hod K hK; simp only [List.getElem?_toArray, List.getElem?_cons_succ, List.getElem?_cons_zero, Option.some.injEq] at ho; subst ho
        go_simp
        refine hK.out _ _ trivial (fun hHeld => ?_)
        clear hK K
        try simp only [Act.put, List.setIfInBounds_toArray, List.set_cons_zero, List.set_cons_succ]
        refine call1 (i := 5) (d := some 18) (by kernel_rfl) (by kernel_rfl) ?_
        intro o ho hod K hK; simp only [List.getElem?_toArray, List.getElem?_cons_succ, List.getElem?_cons_zero, Option.some.injEq] at ho; subst ho
        go_simp
        refine (HKW.out _ (Below.refl _ _).drew).mono ?_
        rintro e w1 ⟨rfl, b1⟩
        refine hK.out _ _ trivial (fun hHeld => ?_)
        clear hK K
        try simp only [Act.put, List.setIfInBounds_toArray, List.set_cons_zero, List.set_cons_succ]
        have b1' : Below wr.heap.size wr w1 := ⟨b1.os, b1.tape, b1.output, b1.size, b1.block⟩
        have hlk := HLK.out _ b1'
        refine call1 (i := 6) (d := some 19) (by kernel_rfl) (by kernel_rfl) ?_
        intro o ho hod K hK; simp only [List.getElem?_toArray, List.getElem?_cons_succ, List.getElem?_cons_zero, Option.some.injEq] at ho; subst ho
        go_simp
        refine hK.out _ _ trivial (fun hHeld => ?_)
        clear hK K
        try simp only [Act.put, List.setIfInBounds_toArray, List.set_cons_zero, List.set_cons_succ]
        clear hlk
        obtain ⟨t0, t1, t2, t3, z1, z2, z3⟩ := HZ.out _ b1'
        have HZ1 := hid z1
        have HZ2 := hid z2
        have HZ3 := hid z3
        clear z1 z2 z3
        refine call1 (i := 7) (d := none) (by kernel_rfl) (by kernel_rfl) ?_
        intro o ho hod K hK; simp only [List.getElem?_toArray, List.getElem?_cons_succ, List.getElem?_cons_zero, Option.some.injEq] at ho; subst ho
        go_simp
        refine hK.out _ _ trivial (fun hHeld => ?_)
        clear hK K
        try simp only [Act.put, List.setIfInBounds_toArray, List.set_cons_zero, List.set_cons_succ]
        refine wpAnyH_done (by kernel_rfl) ?_ _
        clear hHeld b1 b1' t0 t1 t2 t3 HZ HLK HKW
        go_wp2_with fail
        go_roundw
        case rel => exact ⟨j + 1, hlt, by go_num, HZ1, u', v', HU', HZ2, HZ3⟩
        case measure => simp [intOf]; omega
      ·
        intro o ho hod K hK; simp only [List.getElem?_toArray, List.getElem?_cons_succ, List.getElem?_cons_zero, Option.some.injEq] at ho; subst ho
        go_simp
        refine (HKW.out _ (Below.refl _ _).drew).mono ?_
        rintro e w1 ⟨rfl, b1⟩
        refine hK.out _ _ trivial (fun hHeld => ?_)
        clear hK K
        try simp only [Act.put, List.setIfInBounds_toArray, List.set_cons_zero, List.set_cons_succ]
        have t0 := (HZ.out _ ⟨b1.os, b1.tape, b1.output, b1.size, b1.block⟩).1
        refine call1 (i := 1) (d := some 14) (by kernel_rfl) (by kernel_rfl) ?_
        intro o ho hod K hK; simp only [List.getElem?_toArray, List.getElem?_cons_succ, List.getElem?_cons_zero, Option.some.injEq] at ho; subst ho
        go_simp
        refine hK.out _ _ trivial (fun hHeld => ?_)
        clear hK K
        try simp only [Act.put, List.setIfInBounds_toArray, List.set_cons_zero, List.set_cons_succ]
        clear t0
        have b1' : Below wr.heap.size wr w1 := ⟨b1.os, b1.tape, b1.output, b1.size, b1.block⟩
        have hlk := HLK.out _ b1'
        refine call1 (i := 6) (d := some 19) (by kernel_rfl) (by kernel_rfl) ?_
        intro o ho hod K hK; simp only [List.getElem?_toArray, List.getElem?_cons_succ, List.getElem?_cons_zero, Option.some.injEq] at ho; subst ho
        go_simp
        refine hK.out _ _ trivial (fun hHeld => ?_)
        clear hK K
        try simp only [Act.put, List.setIfInBounds_toArray, List.set_cons_zero, List.set_cons_succ]
        clear hlk
        obtain ⟨t0, t1, t2, t3, z1, z2, z3⟩ := HZ.out _ b1'
        have HZ1 := hid z1
        have HZ2 := hid z2
        have HZ3 := hid z3
        clear z1 z2 z3
        refine call1 (i := 7) (d := none) (by kernel_rfl) (by kernel_rfl) ?_
        intro o ho hod K hK; simp only [List.getElem?_toArray, List.getElem?_cons_succ, List.getElem?_cons_zero, Option.some.injEq] at ho; subst ho
        go_simp
        refine hK.out _ _ trivial (fun hHeld => ?_)
        clear hK K
        try simp only [Act.put, List.setIfInBounds_toArray, List.set_cons_zero, List.set_cons_succ]
        refine wpAnyH_done (by kernel_rfl) ?_ _
        clear hHeld b1 b1' t0 t1 t2 t3 HZ HLK HKW
        go_wp2_with fail
        go_roundw
        case rel => exact ⟨j + 1, hlt, by go_num, HZ1, u', v', HU', HZ2, HZ3⟩
        case measure => simp [intOf]; omega
    · obtain rfl : j = p.length := by omega
      have htk : (wayOf p k).take p.length = wayOf p k := List.take_of_length_le (by rw [wayOf_len]; exact Nat.le_refl _)
      rw [htk] at HU
      have c0 := HP.out.c0
      have c1 := HP.out.c1
      have d0 := HR.out.c0
      have d1 := HR.out.c1
      have f0 := HR.out.f 0
      have f1 := HR.out.f 1
      have HX := hid (HR.out.set (.map u) (.map v))
      clear htk HP HR
      go_wp2_with fail
      have r0 := HX.out.c0
      have r1 := HX.out.c1
      refine bodyPost_ret (v := .agg #[.map u, .map v]) (by simp [results, Try.results25, go_sem, r0, r1]) rfl ⟨by rw [HU.out.1, HU.out.2], ?_⟩
      exact (HB.out.setCell (by simp) _).setCell (by simp) _
end Go.Proofs.Ytkhicohhahaahaa
