import Derived.Test.YthoilicolakofaaDoorFx
namespace Go.Proofs.YthoilicolakofaaDoor.fnExactFeed
open Go.ChangeShapes Go.WideShapes Go.ChangeAt Go.RowKit
set_option linter.unusedVariables false
set_option linter.unusedSimpArgs false

structure LwB (X wX : World) (B10 G m c9 : Nat) (a9 : Option Addr) (fr : Nat → Int) (T Fl : Int) (fv9 : Value) (l9 : List Fx) : Prop where
  xb : Below X.heap.size X wX
  k10 : Bx3 wX B10 (.slice a9 m c9) (.int .i64 T) (.int .i64 Fl)
  o9 : Own wX G (.slice a9 m c9) (payl fr m)
  f9 : FxR wX G fv9 l9
variable {X wX w' : World} {B10 G m c9 : Nat} {a9 : Option Addr} {fr : Nat → Int} {T Fl : Int} {fv9 : Value} {l9 : List Fx}
theorem LwB.below (h : LwB X wX B10 G m c9 a9 fr T Fl fv9 l9) (hb : Below wX.heap.size wX w') : LwB X w' B10 G m c9 a9 fr T Fl fv9 l9 :=
  ⟨h.xb.trans (hb.mono h.xb.size), h.k10.below hb h.k10.lt, h.o9.kept hb (fun k hk => (World.ownsRow.lt h.o9 k hk).2), h.f9.below hb⟩
theorem LwB.mark (h : LwB X wX B10 G m c9 a9 fr T Fl fv9 l9) {r : Nat} (hb : Below X.heap.size wX w') (hg : wX.grownBy w' (some r)) (h1 : r ≠ B10) (h2 : r < G) : LwB X w' B10 G m c9 a9 fr T Fl fv9 l9 :=
  ⟨h.xb.trans hb, h.k10.blk (hg.block B10 h.k10.lt (fun e => by injection e with e; exact h1 e.symm)), h.o9.gr hg (fun g e1 e2 => by have := (World.ownsRow.lt h.o9 g e1).1; injection e2 with e2; omega), h.f9.kept hg (fun k e => by injection e with e; omega)⟩

set_option maxRecDepth 100000 in
set_option maxHeartbeats 2000000 in
theorem walk (w : World) (a1 : Option Addr) (n1 c1 : Nat) (f : Nat → Int) (tk fl : Int) (a2 : Option Addr) (n2 c2 : Nat) (f2 : Nat → Int) (aT aS aL aE : Addr) (hn1 : n1 ≤ 9223372036854775807) (hn2 : n2 ≤ 9223372036854775807) (s1 : Seg w a1 n1 f) (hf : Byt f) (s2 : Seg w a2 n2 f2) (hf2 : Byt f2) (htk : tk = IntKind.i64.wrap tk) (hE : Errs w w.heap.size aT aS aL aE) :
    Calls Tryd.prog 3 #[.agg #[.slice a1 n1 c1, .int .i64 tk, .int .i64 fl], .slice a2 n2 c2] w fun e w' => e = .returned (.bool true) ∧ Below w.heap.size w w' := by
  by_cases h2 : n2 ≤ 1048576
  · have d2 : decide ((1048576 : Int) < (n2 : Int)) = false := by simp; omega
    have HSZ := hid (fun w' => szDecC tk fl a1 n1 c1 w' hn1)
    obtain ⟨Wa, hWa⟩ : ∃ Wa, w.alloc (.cells #[.slice a1 n1 c1, .int .i64 tk, .int .i64 fl] 24) = Wa := ⟨_, rfl⟩
    have ba : Below w.heap.size w Wa := by rw [← hWa]; exact (Below.refl _ _).alloc (Nat.le_refl _) _
    have XA : Hid (Bx3 Wa w.heap.size (.slice a1 n1 c1) (.int .i64 tk) (.int .i64 fl)) := by rw [← hWa]; exact hid (Bx3.new _ _ _ _ _)
    by_cases h1 : n1 ≤ 1048576
    · have HZ : Hid (szL n1 = 1048576 - (n1 : Int)) := hid (if_pos h1)
      have dz : decide (1048576 - (n1 : Int) < 0) = false := by simp; omega
      have HTD : Hid (∀ w' : World, Below w.heap.size w w' → Calls Tryd.prog 6 #[.agg #[.slice a1 n1 c1, .int .i64 tk, .int .i64 fl]] w' fun e w2 => ∃ g, e = .returned (.agg #[.slice (some ⟨g, 0, none⟩) n1 n1, .int .i64 tk, .int .i64 fl]) ∧ w'.heap.size ≤ g ∧ g < w2.heap.size ∧ Own w2 w'.heap.size (.slice (some ⟨g, 0, none⟩) n1 n1) (payl f n1) ∧ Seg w2 (some ⟨g, 0, none⟩) n1 f ∧ Below w'.heap.size w' w2) := hid (fun w' hb => (toDecC tk fl a1 n1 c1 f w' (by omega) hf (s1.below hb)).mono (by
        rintro e w2 ⟨g, xs, rfl, hg, hg', sg, ow, b⟩
        exact ⟨g, rfl, hg, hg', own_of_row ow sg, sg, b⟩))
      have HTB : Hid (∀ w' : World, Below w.heap.size w w' → Calls Tryd.prog 7 #[.slice a2 n2 c2] w' fun e w2 => e = .returned (.slice (some ⟨w'.heap.size, 0, none⟩) n2 n2) ∧ w'.heap.size < w2.heap.size ∧ Own w2 w'.heap.size (.slice (some ⟨w'.heap.size, 0, none⟩) n2 n2) (payl f2 n2) ∧ Seg w2 (some ⟨w'.heap.size, 0, none⟩) n2 f2 ∧ Below w'.heap.size w' w2) := hid (fun w' hb => (toByteO a2 n2 c2 f2 w' (by omega) hf2 (s2.below hb)).mono (by
        rintro e w2 ⟨rfl, sg, b, z, xs, ow⟩
        exact ⟨rfl, z, own_of_row ow sg, sg, b⟩))
      obtain ⟨m, fr, T, Fl, fs, hm, hfs, hf4, HSP0, HIM0⟩ := feedBoth n1 n2 f f2 tk fl h1 h2 hf hf2 htk
      have HSP := hid HSP0
      have HIM : Hid (∀ (g1 c1 g2 c2 : Nat) (w' : World), Seg w' (some ⟨g1, 0, none⟩) n1 f → Seg w' (some ⟨g2, 0, none⟩) n2 f2 → Below w.heap.size w w' → Calls Tryd.prog 8 #[.agg #[.slice (some ⟨g1, 0, none⟩) n1 c1, .int .i64 tk, .int .i64 fl], .slice (some ⟨g2, 0, none⟩) n2 c2] w' fun e w2 => Below w'.heap.size w' w2 ∧ ImA w' w2 m fr T Fl fs e) := hid (fun g1 c1 g2 c2 w' s1 s2 hb => HIM0 w.heap.size g1 c1 g2 c2 aT aS aL aE w' s1 s2 (hE.below hb) hb.size)
      have HFB := hid (fun (l : List Fx) (he : l.map prFx = fs) => fx_bounds he hfs hf4)
      have HF := hid hf
      have HF2 := hid hf2
      have HB0 := hid ba
      clear HSP0 HIM0 hfs hf4 ba hE hf hf2 s1 s2 htk
      obtain ⟨x0, x1, x2⟩ := XA.out
      go_enter Tryd.func3, Tryd.ntmps3
      go_wp2_with fail
      try rw [hWa]
      clear hWa
      refine (HSZ.out Wa).mono ?_
      rintro e w1 ⟨rfl, b1⟩
      rw [HZ.out]
      have X1 := hid (XA.out.below b1 XA.out.lt)
      have HB1 := hid (keepS HB0.out b1)
      clear b1 HSZ x0 x1 x2 XA HB0
      obtain ⟨x0, x1, x2⟩ := X1.out
      go_wp2_with fail
      refine (HTD.out w1 HB1.out).mono ?_
      rintro e w2 ⟨g2, rfl, hg2, hg2', og2, sg2, b2⟩
      have X2 := hid (X1.out.below b2 X1.out.lt)
      have HB2 := hid (keepS HB1.out b2)
      have HS2 := hid sg2
      clear b2 og2 sg2 x0 x1 x2 X1 HB1
      go_wp2_with fail
      refine (HTB.out w2 HB2.out).mono ?_
      rintro e w3 ⟨rfl, z3, og3, sg3, b3⟩
      have X3 := hid (X2.out.below b3 X2.out.lt)
      have HB3 := hid (keepS HB2.out b3)
      have HC := hid (HSP.out g2 n1 w2.heap.size n2 w3 (HS2.out.below b3) sg3)
      clear b3 og3 sg3 X2 HB2 HS2
      go_wp2_with fail
      refine HC.out.mono ?_
      rintro e w4 ⟨b4, a4, c4, fv4, l4, rfl, s4, fx4, hl4⟩
      obtain ⟨fa4, fc4, rfl, fs4⟩ := fx4.fxs
      obtain ⟨W5, hW5⟩ : ∃ W5, w4.alloc (.cells #[.slice a4 m c4, .int .i64 T, .int .i64 Fl] 26) = W5 := ⟨_, rfl⟩
      have b5 : Below w4.heap.size w4 W5 := by rw [← hW5]; exact (Below.refl _ _).alloc (Nat.le_refl _) _
      have XW : Hid (Bx3 W5 w4.heap.size (.slice a4 m c4) (.int .i64 T) (.int .i64 Fl)) := by rw [← hW5]; exact hid (Bx3.new _ _ _ _ _)
      have X5 := hid ((X3.out.below b4 X3.out.lt).below b5 (X3.out.below b4 X3.out.lt).lt)
      have HB5 := hid (keepS (keepS HB3.out b4) b5)
      have S5 := hid (s4.below b5)
      have F5 := hid (fs4.below b5)
      have HL4 := hid hl4
      clear b4 b5 s4 fx4 fs4 X3 HB3 HC HSP hl4
      obtain ⟨x0, x1, x2⟩ := X5.out
      go_wp2_with fail
      try rw [hW5]
      clear hW5
      refine (HTD.out W5 HB5.out).mono ?_
      rintro e w6 ⟨g6, rfl, hg6, hg6', og6, sg6, b6⟩
      obtain ⟨W7, hW7⟩ : ∃ W7, w6.alloc (.cells #[.slice (some ⟨g6, 0, none⟩) n1 n1, .int .i64 tk, .int .i64 fl] 26) = W7 := ⟨_, rfl⟩
      have b7 : Below w6.heap.size w6 W7 := by rw [← hW7]; exact (Below.refl _ _).alloc (Nat.le_refl _) _
      have z7 : W7.heap.size = w6.heap.size + 1 := by rw [← hW7]; simp
      have K7 : Hid (Bx3 W7 w6.heap.size (.slice (some ⟨g6, 0, none⟩) n1 n1) (.int .i64 tk) (.int .i64 fl)) := by rw [← hW7]; exact hid (Bx3.new _ _ _ _ _)
      have O7 := hid (og6.kept b7 (fun k hk => (World.ownsRow.lt og6 k hk).2))
      have S7 := hid (sg6.below b7)
      have XB7 := hid (keepS b6 b7)
      have HB7 := hid (keepS HB5.out XB7.out)
      have HZ7 := hid z7
      clear b6 b7 og6 sg6 x0 x1 x2 z7
      go_wp2_with fail
      try rw [hW7]
      clear hW7
      refine (HTB.out W7 HB7.out).mono ?_
      rintro e w8 ⟨rfl, z8, og8, sg8, b8⟩
      have K8 := hid (K7.out.below b8 K7.out.lt)
      have O8 := hid (O7.out.kept b8 (fun k hk => (World.ownsRow.lt O7.out k hk).2))
      have S8 := hid (S7.out.below b8)
      have XB8 := hid (keepS XB7.out b8)
      have HB8 := hid (keepS HB7.out b8)
      have P8 := hid og8
      have HC := hid (HIM.out g6 n1 W7.heap.size n2 w8 S8.out sg8 HB8.out)
      clear b8 og8 sg8 K7 O7 S7 XB7 HB7
      obtain ⟨x0, x1, x2⟩ := K8.out
      obtain ⟨g8, hg8⟩ : ∃ g8, W7.heap.size = g8 := ⟨_, rfl⟩
      rw [hg8] at HC P8 z8 HZ7 ⊢
      clear hg8
      go_wp2_with fail
      refine HC.out.mono ?_
      rintro e w9 ⟨b9, v9, fv9, l9, rfl, o9, fx9, hl9, sp9⟩
      have SP9 := hid sp9
      obtain ⟨a9, c9, rfl, _⟩ := own_seg o9
      obtain ⟨fa9, fc9, rfl, _⟩ := fx9.fxs
      have HV9 : Hid ((∀ k, (Value.slice a9 m c9).ownBlock = some k → k < w9.heap.size) ∧ (∀ k, (Value.slice fa9 l9.length fc9).ownBlock = some k → k < w9.heap.size) ∧ ∀ i, i < l9.length → ∀ k, (gFx l9 i).2.1.ownBlock = some k → k < w9.heap.size) := hid ⟨fun k hk => (World.ownsRow.lt o9 k hk).2, fun k hk => (World.ownsRow.lt fx9.row k hk).2, fun i hi k hk => (World.ownsRow.lt (fx9.pay i hi) k hk).2⟩
      obtain ⟨W10, hW10⟩ : ∃ W10, w9.alloc (.cells #[.slice a9 m c9, .int .i64 T, .int .i64 Fl] 26) = W10 := ⟨_, rfl⟩
      have b10 : Below w9.heap.size w9 W10 := by rw [← hW10]; exact (Below.refl _ _).alloc (Nat.le_refl _) _
      have b90 := keepS b9 b10
      have zz9 := b9.size
      have KA : Hid (LwB W5 W10 w9.heap.size w8.heap.size m c9 a9 fr T Fl (.slice fa9 l9.length fc9) l9) := hid ⟨keepS XB8.out b90, by rw [← hW10]; exact Bx3.new _ _ _ _ _, o9.kept b10 (fun k hk => (World.ownsRow.lt o9 k hk).2), fx9.below b10⟩
      have KX := hid (K8.out.below b90 K8.out.lt)
      have OX := hid (O8.out.kept b90 (fun k hk => (World.ownsRow.lt O8.out k hk).2))
      have PX := hid (P8.out.kept b90 (fun k hk => (World.ownsRow.lt P8.out k hk).2))
      have HL9 := hid hl9
      have HBX := hid (keepS HB8.out b90)
      clear b9 b10 b90 o9 fx9 sp9 hl9 x0 x1 x2 K8 O8 P8 S8 XB8 HB8 HC
      have hx0 := KA.out.k10
      obtain ⟨x0, x1, x2⟩ := hx0
      have hy0 := XW.out.below KA.out.xb XW.out.lt
      obtain ⟨y0, y1, y2⟩ := hy0
      go_wp2_with fail
      try rw [hW10]
      clear hW10
      obtain ⟨_, _, q9, s9⟩ := own_seg KA.out.o9
      injection q9 with q91 _ q93
      subst q91 q93
      refine (eqDecS T Fl _ _ m _ _ fr W10 (by omega) s9 (S5.out.below KA.out.xb)).mono ?_
      rintro e w11 ⟨rfl, b11⟩
      have KB := hid (KA.out.below b11)
      have KY := hid (KX.out.below b11 KX.out.lt)
      have OY := hid (OX.out.kept b11 (fun k hk => (World.ownsRow.lt OX.out k hk).2))
      have PY := hid (PX.out.kept b11 (fun k hk => (World.ownsRow.lt PX.out k hk).2))
      have HBY := hid (keepS HBX.out b11)
      clear b11 KA KX OX PX HBX s9 x0 x1 x2 y0 y1 y2
      obtain ⟨_, _, q9, s9⟩ := KB.out.f9.fxs
      injection q9 with q91 _ q93
      subst q91 q93
      have HEF := hid (eqFrameSC _ _ fc9 fc4 l9 l4 w11 (HFB.out l9 HL9.out).1 (HFB.out l9 HL9.out).2.1 s9 (F5.out.below KB.out.xb) (HL9.out.trans HL4.out.symm))
      clear s9
      go_wp2_with fail
      refine HEF.out.mono ?_
      rintro e w12 ⟨rfl, b12⟩
      have KC := hid (KB.out.below b12)
      have KZ := hid (KY.out.below b12 KY.out.lt)
      have OZ := hid (OY.out.kept b12 (fun k hk => (World.ownsRow.lt OY.out k hk).2))
      have PZ := hid (PY.out.kept b12 (fun k hk => (World.ownsRow.lt PY.out k hk).2))
      have HBZ := hid (keepS HBY.out b12)
      clear b12 KB KY OY PY HBY HEF
      obtain ⟨x0, x1, x2⟩ := KZ.out
      have hy0 := X5.out.below KC.out.xb X5.out.lt
      obtain ⟨y0, y1, y2⟩ := hy0
      go_wp2_with fail
      refine wp_region_held_drew (S := fun w' => (w'.cell? ⟨w6.heap.size, 0, none⟩ = some (.slice (some ⟨g6, 0, none⟩) n1 n1) ∧ w'.cell? ⟨w6.heap.size, 1, none⟩ = some (.int .i64 tk) ∧ w'.cell? ⟨w6.heap.size, 2, none⟩ = some (.int .i64 fl)) ∧ (w'.cell? ⟨w.heap.size, 0, none⟩ = some (.slice a1 n1 c1) ∧ w'.cell? ⟨w.heap.size, 1, none⟩ = some (.int .i64 tk) ∧ w'.cell? ⟨w.heap.size, 2, none⟩ = some (.int .i64 fl))) (by kernel_rfl) ⟨⟨x0, x1, x2⟩, ⟨y0, y1, y2⟩⟩ (fun hHeld => ?_)
      refine take1 (i := 0) (d := some 53) (v := ?_) (by kernel_rfl) (by kernel_rfl) (by kernel_rfl) (by kernel_rfl) (fun _ _ _ h => h) ?_ hHeld ?_
      rotate_left
      · (intro o ho; simp only [List.getElem?_toArray, List.getElem?_cons_succ, List.getElem?_cons_zero, Option.some.injEq] at ho; subst ho; refine Or.inl ⟨by rfl, ?_⟩; intro w hSw; (try dsimp only at hSw); go_simp; try with_reducible rfl)
      try simp only [Act.put, List.setIfInBounds_toArray, List.set_cons_zero, List.set_cons_succ]
      refine take1 (i := 1) (d := some 54) (v := ?_) (by kernel_rfl) (by kernel_rfl) (by kernel_rfl) (by kernel_rfl) (fun _ _ _ h => h) ?_ hHeld ?_
      rotate_left
      · (intro o ho; simp only [List.getElem?_toArray, List.getElem?_cons_succ, List.getElem?_cons_zero, Option.some.injEq] at ho; subst ho; refine Or.inl ⟨by rfl, ?_⟩; intro w hSw; (try dsimp only at hSw); go_simp; try with_reducible rfl)
      try simp only [Act.put, List.setIfInBounds_toArray, List.set_cons_zero, List.set_cons_succ]
      refine call1 (i := 2) (d := some 55) (by kernel_rfl) (by kernel_rfl) ?_
      intro o ho hod K hK; simp only [List.getElem?_toArray, List.getElem?_cons_succ, List.getElem?_cons_zero, Option.some.injEq] at ho; subst ho
      go_simp
      refine (HTD.out w12.drew HBZ.out.drew).mono ?_
      rintro e w13 ⟨g13, rfl, hg13, hg13', og13, sg13, b13⟩
      have b13' : Below w12.heap.size w12 w13 := ⟨b13.os, b13.tape, b13.output, b13.size, b13.block⟩
      have KD := hid (KC.out.below b13')
      have KZ3 := hid (KZ.out.below b13' KZ.out.lt)
      have OZ3 := hid (OZ.out.kept b13' (fun k hk => (World.ownsRow.lt OZ.out k hk).2))
      have PZ3 := hid (PZ.out.kept b13' (fun k hk => (World.ownsRow.lt PZ.out k hk).2))
      have hy3 := X5.out.below KD.out.xb X5.out.lt
      refine hK.out _ _ ⟨KZ3.out, hy3⟩ (fun hHeld => ?_)
      clear hK K
      try simp only [Act.put, List.setIfInBounds_toArray, List.set_cons_zero, List.set_cons_succ]
      refine call1 (i := 3) (d := some 56) (by kernel_rfl) (by kernel_rfl) ?_
      intro o ho hod K hK; simp only [List.getElem?_toArray, List.getElem?_cons_succ, List.getElem?_cons_zero, Option.some.injEq] at ho; subst ho
      go_simp
      refine (eqDecC tk fl _ _ _ _ (payl f n1) w13 (by rw [payl_len]; omega) OZ3.out og13).mono ?_
      rintro e w14 ⟨rfl, b14⟩
      have KE := hid (KD.out.below b14)
      have KZ4 := hid (KZ3.out.below b14 KZ3.out.lt)
      have OZ4 := hid (OZ3.out.kept b14 (fun k hk => (World.ownsRow.lt OZ3.out k hk).2))
      have PZ4 := hid (PZ3.out.kept b14 (fun k hk => (World.ownsRow.lt PZ3.out k hk).2))
      have hy4 := X5.out.below KE.out.xb X5.out.lt
      refine hK.out _ _ ⟨KZ4.out, hy4⟩ (fun hHeld => ?_)
      clear hK K
      try simp only [Act.put, List.setIfInBounds_toArray, List.set_cons_zero, List.set_cons_succ]
      refine take1 (i := 4) (d := some 57) (v := ?_) (by kernel_rfl) (by kernel_rfl) (by kernel_rfl) (by kernel_rfl) (fun _ _ _ h => h) ?_ hHeld ?_
      rotate_left
      · (intro o ho; simp only [List.getElem?_toArray, List.getElem?_cons_succ, List.getElem?_cons_zero, Option.some.injEq] at ho; subst ho; refine Or.inl ⟨by rfl, ?_⟩; intro w hSw; (try dsimp only at hSw); go_simp; try with_reducible rfl)
      try simp only [Act.put, List.setIfInBounds_toArray, List.set_cons_zero, List.set_cons_succ]
      refine wpAnyH_done (by kernel_rfl) ?_ _
      clear hHeld b13 b13' b14 og13 sg13 hy3 hy4 KD KZ3 OZ3 PZ3 KC KZ OZ PZ x0 x1 x2 y0 y1 y2 HBZ
      go_wp2_with fail
      refine (HTB.out w14 (keepS HB5.out KE.out.xb)).mono ?_
      rintro e w15 ⟨rfl, z15, og15, sg15, b15⟩
      have KF := hid (KE.out.below b15)
      have KZ5 := hid (KZ4.out.below b15 KZ4.out.lt)
      have OZ5 := hid (OZ4.out.kept b15 (fun k hk => (World.ownsRow.lt OZ4.out k hk).2))
      have PZ5 := hid (PZ4.out.kept b15 (fun k hk => (World.ownsRow.lt PZ4.out k hk).2))
      have HQ := hid (eqOwn PZ5.out og15 (by rw [payl_len]; omega))
      clear b15 og15 sg15 KE KZ4 OZ4 PZ4
      go_wp2_with fail
      refine HQ.out.mono ?_
      rintro e w16 ⟨rfl, b16⟩
      have KG := hid (KF.out.below b16)
      have KZ6 := hid (KZ5.out.below b16 KZ5.out.lt)
      have OZ6 := hid (OZ5.out.kept b16 (fun k hk => (World.ownsRow.lt OZ5.out k hk).2))
      have PZ6 := hid (PZ5.out.kept b16 (fun k hk => (World.ownsRow.lt PZ5.out k hk).2))
      clear b16 KF KZ5 OZ5 PZ5 HQ
      have HM6 := hid (markDecC tk fl OZ6.out KG.out.xb.size (by rw [payl_len]; omega) 1 (by omega))
      rw [payl_len] at HM6
      obtain ⟨k1, hk1⟩ : ∃ k1, 1 + n1 = k1 := ⟨_, rfl⟩
      rw [hk1] at HM6
      have hk1' : Hid (k1 ≤ 1048577) := hid (by omega)
      clear hk1
      obtain ⟨x0, x1, x2⟩ := KZ6.out
      go_wp2_with fail
      refine HM6.out.mono ?_
      rintro e w17 ⟨rfl, b17, z17, o17, _⟩
      have gr17 : w16.grownBy w17 (some g6) := ⟨b17.os, b17.tape, b17.output, z17, fun k hk hne => o17 k hk (fun e => hne (by rw [← e]; rfl))⟩
      have hz7 := HZ7.out
      have KH := hid (KG.out.mark b17 gr17 (by omega) (by omega))
      have PZ7 := hid (PZ6.out.gr gr17 (fun g e1 e2 => by simp [Value.ownBlock] at e1; injection e2 with e2; omega))
      clear b17 z17 o17 gr17 HM6 KG KZ6 OZ6 PZ6 x0 x1 x2 hz7
      have HM7 := hid (markOwn2 PZ7.out (by rw [payl_len]; omega) k1 (by have := hk1'.out; omega))
      rw [payl_len] at HM7
      obtain ⟨k2, hk2⟩ : ∃ k2, k1 + n2 = k2 := ⟨_, rfl⟩
      rw [hk2] at HM7
      clear hk2
      have dk2 : decide ((k2 : Int) < 0) = false := by simp
      go_wp2_with fail
      refine HM7.out.mono ?_
      rintro e w18 ⟨rfl, b18, z18, o18, _⟩
      have gr18 : w17.grownBy w18 (some g8) := ⟨b18.os, b18.tape, b18.output, Nat.le_of_eq z18.symm, fun k hk hne => o18 k (fun e => hne (by rw [← e]; rfl))⟩
      have KI := hid (KH.out.mark (b18.mono (by have := HZ7.out; omega)) gr18 (by have := HZ7.out; omega) (by omega))
      clear b18 z18 o18 gr18 HM7 KH PZ7
      obtain ⟨x0, x1, x2⟩ := KI.out.k10
      have hy0 := XW.out.below KI.out.xb XW.out.lt
      obtain ⟨y0, y1, y2⟩ := hy0
      go_wp2_with fail
      obtain ⟨_, _, q9, s9⟩ := own_seg KI.out.o9
      injection q9 with q91 _ q93
      subst q91 q93
      refine (eqDecS T Fl _ _ m _ _ fr w18 (by omega) s9 (S5.out.below KI.out.xb)).mono ?_
      rintro e w19 ⟨rfl, b19⟩
      have KJ := hid (KI.out.below b19)
      clear b19 KI s9 x0 x1 x2 y0 y1 y2
      obtain ⟨_, _, q9, s9⟩ := KJ.out.f9.fxs
      injection q9 with q91 _ q93
      subst q91 q93
      have HEF := hid (eqFrameSC _ _ fc9 fc4 l9 l4 w19 (HFB.out l9 HL9.out).1 (HFB.out l9 HL9.out).2.1 s9 (F5.out.below KJ.out.xb) (HL9.out.trans HL4.out.symm))
      clear s9
      go_wp2_with fail
      refine HEF.out.mono ?_
      rintro e w20 ⟨rfl, b20⟩
      have KK := hid (KJ.out.below b20)
      clear b20 KJ HEF
      have HM8 := hid (markDecC T Fl KK.out.o9 (by have := KK.out.k10.lt; omega) (by rw [payl_len]; omega) 1 (by omega))
      rw [payl_len] at HM8
      obtain ⟨km, hkm⟩ : ∃ km, 1 + m = km := ⟨_, rfl⟩
      rw [hkm] at HM8
      have hkm' : Hid (km ≤ 2097153) := hid (by omega)
      have HKM := hid hkm
      clear hkm
      obtain ⟨x0, x1, x2⟩ := KK.out.k10
      go_wp2_with fail
      refine HM8.out.mono ?_
      rintro e w21 ⟨rfl, b21, z21, o21, sg21⟩
      have gr21 : w20.grownBy w21 (Value.slice a9 m c9).ownBlock := ⟨b21.os, b21.tape, b21.output, z21, fun k hk hne => o21 k hk (fun e => hne e.symm)⟩
      have xb21 := hid (KK.out.xb.trans (b21.mono (by have := HZ7.out; omega)))
      have F21 := hid (KK.out.f9.kept2 gr21 SP9.out)
      have K21 := hid (KK.out.k10.blk (o21 w9.heap.size KK.out.k10.lt (fun e => by have := HV9.out.1 _ e; omega)))
      have S21 : Hid (Seg w21 a9 m (mk8 1)) := by
        obtain ⟨_, _, q9, s9⟩ := sg21
        injection q9 with q91 _ q93
        subst q91 q93
        exact hid s9
      clear b21 z21 o21 sg21 gr21 HM8 KK x0 x1 x2
      have HM9 := hid (markFrameSC F21.out km (HFB.out l9 HL9.out).1 (by have := (HFB.out l9 HL9.out).2.2 km; have := hkm'.out; omega))
      obtain ⟨M, hM⟩ : ∃ M, mkPos km l9 l9.length = M := ⟨_, rfl⟩
      rw [hM] at HM9
      have HMM := hid hM
      clear hM
      go_wp2_with fail
      refine HM9.out.mono ?_
      rintro e w22 ⟨rfl, b22, z22, o22, am, cm, em, fm22⟩
      injection em with em1 _ em3
      subst em1 em3
      have xb22 := hid (xb21.out.trans (b22.mono (by have := HZ7.out; omega)))
      have K22 := hid (K21.out.blk (o22 w9.heap.size (fun e => by have := HV9.out.2.1 _ e; omega) (fun i hi e => by have := HV9.out.2.2 i hi _ e; omega)))
      have S22 := hid (seg_keep (cap := c9) S21.out (Nat.le_of_eq z22.symm) (fun b hb => o22 b (SP9.out b hb).1 (SP9.out b hb).2))
      have M22 := hid fm22
      clear b22 z22 o22 fm22 HM9 K21 S21 F21 xb21
      have HM10 := hid (heldDecC a9 m c9 1 T Fl w22 (by omega) (by omega) S22.out)
      rw [HKM.out] at HM10
      obtain ⟨x0, x1, x2⟩ := K22.out
      have dkm : decide ((km : Int) < 0) = false := by simp
      have dM : decide ((M : Int) < 0) = false := by simp
      have dMM : ((M : Int) != (M : Int)) = false := by simp
      go_wp2_with fail
      refine HM10.out.mono ?_
      rintro e w23 ⟨rfl, b23⟩
      have xb23 := hid (xb22.out.trans (b23.mono xb22.out.size))
      have M23 := hid (M22.out.below b23)
      clear b23 HM10 M22 S22 K22 x0 x1 x2 xb22
      have HM11 := hid (heldFrameSC fa9 fc9 km l9 w23 (HFB.out l9 HL9.out).1 (by have := (HFB.out l9 HL9.out).2.2 km; have := hkm'.out; omega) M23.out)
      rw [HMM.out] at HM11
      go_wp2_with fail
      refine HM11.out.mono ?_
      rintro e w24 ⟨rfl, b24⟩
      have xb24 := hid (xb23.out.trans (b24.mono xb23.out.size))
      clear b24 HM11 M23 xb23
      have hy0 := X5.out.below xb24.out X5.out.lt
      obtain ⟨y0, y1, y2⟩ := hy0
      go_wp2_with fail
      refine (HTD.out w24 (keepS HB5.out xb24.out)).mono ?_
      rintro e w25 ⟨g25, rfl, hg25, hg25', og25, sg25, b25⟩
      have xb25 := hid (xb24.out.trans (b25.mono xb24.out.size))
      have S25 := hid sg25
      clear b25 og25 sg25 xb24 y0 y1 y2
      go_wp2_with fail
      refine (HTB.out w25 (keepS HB5.out xb25.out)).mono ?_
      rintro e w26 ⟨rfl, z26, og26, sg26, b26⟩
      have xb26 := hid (xb25.out.trans (b26.mono xb25.out.size))
      have HC := hid (HIM.out g25 n1 w25.heap.size n2 w26 (S25.out.below b26) sg26 (keepS HB5.out xb26.out))
      clear b26 og26 sg26 xb25 S25
      go_wp2_with fail
      refine HC.out.mono ?_
      rintro e w27 ⟨b27, v27, fv27, l27, rfl, o27, fx27, hl27, _⟩
      obtain ⟨a27, c27, rfl, s27⟩ := own_seg o27
      obtain ⟨fa27, fc27, rfl, fs27⟩ := fx27.fxs
      obtain ⟨W28, hW28⟩ : ∃ W28, w27.alloc (.cells #[.slice a27 m c27, .int .i64 T, .int .i64 Fl] 26) = W28 := ⟨_, rfl⟩
      have b28 : Below w27.heap.size w27 W28 := by rw [← hW28]; exact (Below.refl _ _).alloc (Nat.le_refl _) _
      have K28 : Hid (Bx3 W28 w27.heap.size (.slice a27 m c27) (.int .i64 T) (.int .i64 Fl)) := by rw [← hW28]; exact hid (Bx3.new _ _ _ _ _)
      have xb28 := hid ((xb26.out.trans (b27.mono xb26.out.size)).trans (b28.mono (Nat.le_trans xb26.out.size b27.size)))
      have HEQ := hid (eqDecS T Fl _ _ m c27 c4 fr W28 (by omega) (s27.below b28) (S5.out.below xb28.out))
      have FS28 := hid (fs27.below b28)
      have HL27 := hid hl27
      clear b27 b28 o27 fx27 hl27 s27 fs27 HC xb26
      obtain ⟨x0, x1, x2⟩ := K28.out
      have hy0 := XW.out.below xb28.out XW.out.lt
      obtain ⟨y0, y1, y2⟩ := hy0
      go_wp2_with fail
      try rw [hW28]
      clear hW28
      refine HEQ.out.mono ?_
      rintro e w29 ⟨rfl, b29⟩
      have xb29 := hid (xb28.out.trans (b29.mono xb28.out.size))
      have HEF := hid (eqFrameSC _ _ fc27 fc4 l27 l4 w29 (HFB.out l27 HL27.out).1 (HFB.out l27 HL27.out).2.1 (FS28.out.below b29) (F5.out.below xb29.out) (HL27.out.trans HL4.out.symm))
      clear b29 HEQ xb28 FS28 x0 x1 x2 y0 y1 y2
      go_wp2_with fail
      refine HEF.out.mono ?_
      rintro e w30 ⟨rfl, b30⟩
      have HBE := hid (keepS HB5.out (xb29.out.trans (b30.mono xb29.out.size)))
      clear b30 HEF xb29
      go_wp2_with fail
      go_ret
      exact ⟨rfl, HBE.out⟩
    · have HZ : Hid (szL n1 = -1) := hid (if_neg h1)
      have HB0 := hid ba
      clear h1 h2 s1 s2 hf hf2 htk hE
      obtain ⟨x0, x1, x2⟩ := XA.out
      go_enter Tryd.func3, Tryd.ntmps3
      go_wp2_with fail
      try rw [hWa]
      clear hWa
      refine (HSZ.out Wa).mono ?_
      rintro e w1 ⟨rfl, b1⟩
      rw [HZ.out]
      have HB1 := hid (keepS HB0.out b1)
      clear b1 HSZ x0 x1 x2 XA HB0 ba
      go_wp2_with fail
      go_ret
      exact ⟨rfl, HB1.out⟩
  · clear s1 s2 hf hf2 htk hE hn1
    go_enter Tryd.func3, Tryd.ntmps3
    go_wp2_with fail
    go_ret
    exact ⟨rfl, (Below.refl _ _).alloc (Nat.le_refl _) _⟩
end Go.Proofs.YthoilicolakofaaDoor.fnExactFeed
