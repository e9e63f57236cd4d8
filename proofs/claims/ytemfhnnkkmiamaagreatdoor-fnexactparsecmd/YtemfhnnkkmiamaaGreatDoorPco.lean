import Derived.Test.YtemfhnnkkmiamaaGreatDoorPcn
namespace Go.Proofs.YtemfhnnkkmiamaaGreatDoor
open Go.ChangeShapes Go.WideShapes Go.ChangeAt Go.RowKit
set_option linter.unusedVariables false
set_option linter.unusedSimpArgs false

theorem isSome_map {α β : Type} (o : Option α) (f : α → β) : (o.map f).isSome = o.isSome := by cases o <;> rfl
def RwP (b B : Nat) (c : Cm) (f : Nat) (x : ByteArray) (w : World) (e : Ending) (w' : World) : Prop := e = .returned (.bool (wdR c f x).isSome) ∧ w.grownBy w' (some b) ∧ ∀ c', wdR c f x = some c' → ∃ pv', CX w' b B c' pv'
set_option maxRecDepth 100000 in
set_option maxHeartbeats 2000000 in
theorem readWord0 (b B : Nat) (c : Cm) (pv : Value) (x : ByteArray) (w : World) (hs : x.size ≤ 1048576) (h : CX w b B c pv) :
    Calls Tryz.prog 37 #[.pointer (some ⟨b, 0, none⟩), .int .i64 0, .string x] w fun e w' => RwP b B c 0 x w e w' := by
  have HN := hid (readNumberC x 1 7 w hs (by omega))
  have HW : Hid (wdR c 0 x = (numR x 1 7).map fun n => { c with a := n }) := hid rfl
  obtain ⟨R, hR⟩ : ∃ R, numR x 1 7 = R := ⟨_, rfl⟩
  rw [hR] at HN HW
  obtain ⟨v, hv⟩ : ∃ v, R.getD 0 = v := ⟨_, rfl⟩
  obtain ⟨q, hq⟩ : ∃ q, R.isSome = q := ⟨_, rfl⟩
  rw [hv, hq] at HN
  have HV := hid hv
  have HQ := hid hq
  have HX := hid h
  clear hv hq hR h
  go_enter Tryz.func37, Tryz.ntmps37
  go_wp2_with fail
  refine HN.out.mono ?_
  rintro e w1 ⟨rfl, b1⟩
  have HX1 := hid (HX.out.below b1)
  have k0 := HX1.out.box.c 1 _ rfl
  have f0 := HX1.out.box.f 1
  have HG := hid (grown_b (b := b) b1 1 (.int .i64 v))
  clear HN HX b1
  go_wp2_with fail
  go_ret
  refine ⟨by rw [HW.out, isSome_map, HQ.out]; rfl, HG.out, fun c' hc' => ?_⟩
  rw [HW.out] at hc'
  have hv := HV.out
  cases R with
  | none => cases hc'
  | some n =>
    simp at hc' hv
    subst hc' hv
    exact ⟨pv, HX1.out.setI 1 _ (by decide) rfl rfl⟩
set_option maxRecDepth 100000 in
set_option maxHeartbeats 2000000 in
theorem readWord1 (b B : Nat) (c : Cm) (pv : Value) (x : ByteArray) (w : World) (hs : x.size ≤ 1048576) (h : CX w b B c pv) :
    Calls Tryz.prog 37 #[.pointer (some ⟨b, 0, none⟩), .int .i64 1, .string x] w fun e w' => RwP b B c 1 x w e w' := by
  have HN := hid (readNumberC x 1 7 w hs (by omega))
  have HW : Hid (wdR c 1 x = (numR x 1 7).map fun n => { c with b := n }) := hid rfl
  obtain ⟨R, hR⟩ : ∃ R, numR x 1 7 = R := ⟨_, rfl⟩
  rw [hR] at HN HW
  obtain ⟨v, hv⟩ : ∃ v, R.getD 0 = v := ⟨_, rfl⟩
  obtain ⟨q, hq⟩ : ∃ q, R.isSome = q := ⟨_, rfl⟩
  rw [hv, hq] at HN
  have HV := hid hv
  have HQ := hid hq
  have HX := hid h
  clear hv hq hR h
  go_enter Tryz.func37, Tryz.ntmps37
  go_wp2_with fail
  refine HN.out.mono ?_
  rintro e w1 ⟨rfl, b1⟩
  have HX1 := hid (HX.out.below b1)
  have k0 := HX1.out.box.c 2 _ rfl
  have f0 := HX1.out.box.f 2
  have HG := hid (grown_b (b := b) b1 2 (.int .i64 v))
  clear HN HX b1
  go_wp2_with fail
  go_ret
  refine ⟨by rw [HW.out, isSome_map, HQ.out]; rfl, HG.out, fun c' hc' => ?_⟩
  rw [HW.out] at hc'
  have hv := HV.out
  cases R with
  | none => cases hc'
  | some n =>
    simp at hc' hv
    subst hc' hv
    exact ⟨pv, HX1.out.setI 2 _ (by decide) rfl rfl⟩
set_option maxRecDepth 100000 in
set_option maxHeartbeats 2000000 in
theorem readWord2 (b B : Nat) (c : Cm) (pv : Value) (x : ByteArray) (w : World) (hs : x.size ≤ 1048576) (h : CX w b B c pv) :
    Calls Tryz.prog 37 #[.pointer (some ⟨b, 0, none⟩), .int .i64 2, .string x] w fun e w' => RwP b B c 2 x w e w' := by
  have HN := hid (readNumberC x 5 99999 w hs (by omega))
  have HW : Hid (wdR c 2 x = (numR x 5 99999).map fun n => { c with n := n }) := hid rfl
  obtain ⟨R, hR⟩ : ∃ R, numR x 5 99999 = R := ⟨_, rfl⟩
  rw [hR] at HN HW
  obtain ⟨v, hv⟩ : ∃ v, R.getD 0 = v := ⟨_, rfl⟩
  obtain ⟨q, hq⟩ : ∃ q, R.isSome = q := ⟨_, rfl⟩
  rw [hv, hq] at HN
  have HV := hid hv
  have HQ := hid hq
  have HX := hid h
  clear hv hq hR h
  go_enter Tryz.func37, Tryz.ntmps37
  go_wp2_with fail
  refine HN.out.mono ?_
  rintro e w1 ⟨rfl, b1⟩
  have HX1 := hid (HX.out.below b1)
  have k0 := HX1.out.box.c 3 _ rfl
  have f0 := HX1.out.box.f 3
  have HG := hid (grown_b (b := b) b1 3 (.int .i64 v))
  clear HN HX b1
  go_wp2_with fail
  go_ret
  refine ⟨by rw [HW.out, isSome_map, HQ.out]; rfl, HG.out, fun c' hc' => ?_⟩
  rw [HW.out] at hc'
  have hv := HV.out
  cases R with
  | none => cases hc'
  | some n =>
    simp at hc' hv
    subst hc' hv
    exact ⟨pv, HX1.out.setI 3 _ (by decide) rfl rfl⟩
set_option maxRecDepth 100000 in
set_option maxHeartbeats 2000000 in
theorem readWord3 (b B : Nat) (c : Cm) (pv : Value) (x : ByteArray) (w : World) (hs : x.size ≤ 1048576) (h : CX w b B c pv) :
    Calls Tryz.prog 37 #[.pointer (some ⟨b, 0, none⟩), .int .i64 3, .string x] w fun e w' => RwP b B c 3 x w e w' := by
  have HN := hid (readNumberC x 5 255 w hs (by omega))
  have HW : Hid (wdR c 3 x = (numR x 5 255).map fun n => { c with x := n }) := hid rfl
  obtain ⟨R, hR⟩ : ∃ R, numR x 5 255 = R := ⟨_, rfl⟩
  rw [hR] at HN HW
  obtain ⟨v, hv⟩ : ∃ v, R.getD 0 = v := ⟨_, rfl⟩
  obtain ⟨q, hq⟩ : ∃ q, R.isSome = q := ⟨_, rfl⟩
  rw [hv, hq] at HN
  have HV := hid hv
  have HQ := hid hq
  have HX := hid h
  clear hv hq hR h
  go_enter Tryz.func37, Tryz.ntmps37
  go_wp2_with fail
  refine HN.out.mono ?_
  rintro e w1 ⟨rfl, b1⟩
  have HX1 := hid (HX.out.below b1)
  have k0 := HX1.out.box.c 4 _ rfl
  have f0 := HX1.out.box.f 4
  have HG := hid (grown_b (b := b) b1 4 (.int .i64 v))
  clear HN HX b1
  go_wp2_with fail
  go_ret
  refine ⟨by rw [HW.out, isSome_map, HQ.out]; rfl, HG.out, fun c' hc' => ?_⟩
  rw [HW.out] at hc'
  have hv := HV.out
  cases R with
  | none => cases hc'
  | some n =>
    simp at hc' hv
    subst hc' hv
    exact ⟨pv, HX1.out.setI 4 _ (by decide) rfl rfl⟩
set_option maxRecDepth 100000 in
set_option maxHeartbeats 2000000 in
theorem readWord4 (b B : Nat) (c : Cm) (pv : Value) (x : ByteArray) (m : Int) (w : World) (hs : x.size ≤ 1048576) (hm : w.cell? ⟨0, 0, none⟩ = some (.int .i64 m)) (h : CX w b B c pv) :
    Calls Tryz.prog 37 #[.pointer (some ⟨b, 0, none⟩), .int .i64 4, .string x] w fun e w' => RwP b B c 4 x w e w' := by
  have HN := hid (readPathC x m w hs hm)
  have HW : Hid (wdR c 4 x = (pthR x).map fun p => { c with p := p }) := hid rfl
  obtain ⟨R, hR⟩ : ∃ R, pthR x = R := ⟨_, rfl⟩
  rw [hR] at HN HW
  obtain ⟨q, hq⟩ : ∃ q, R.isSome = q := ⟨_, rfl⟩
  rw [hq] at HN
  have HQ := hid hq
  have HX := hid h
  clear hq hR h hm
  go_enter Tryz.func37, Tryz.ntmps37
  go_wp2_with fail
  refine HN.out.mono ?_
  rintro e w1 ⟨a, n, cp, rfl, b1, hpv⟩
  have HX1 := hid (HX.out.below b1)
  obtain ⟨pa, pc, hpf, _⟩ := HX1.out.pth.form
  have k0 := HX1.out.box.c 5 _ rfl
  rw [hpf] at k0
  have f0 := HX1.out.box.f 5
  have HG := hid (grown_b (b := b) b1 5 (.slice a n cp))
  have HP := hid (hpv.wide HX.out.le)
  clear HN HX b1 hpv hpf
  go_wp2_with fail
  go_ret
  refine ⟨by rw [HW.out, isSome_map, HQ.out]; rfl, HG.out, fun c' hc' => ?_⟩
  rw [HW.out] at hc'
  cases R with
  | none => cases hc'
  | some p =>
    simp at hc'
    subst hc'
    exact ⟨_, HX1.out.setP HP.out⟩
set_option maxRecDepth 100000 in
set_option maxHeartbeats 2000000 in
theorem readWord5 (b B : Nat) (c : Cm) (pv : Value) (x : ByteArray) (w : World) (hs : x.size ≤ 1048576) (h : CX w b B c pv) :
    Calls Tryz.prog 37 #[.pointer (some ⟨b, 0, none⟩), .int .i64 5, .string x] w fun e w' => RwP b B c 5 x w e w' := by
  have HW : Hid (wdR c 5 x = if (x.toList == []) = true then none else some { c with v := x }) := hid rfl
  obtain ⟨q, hq⟩ : ∃ q, (x.toList == []) = q := ⟨_, rfl⟩
  rw [hq] at HW
  have HX := hid h
  have k0 := h.box.c 6 _ rfl
  have f0 := h.box.f 6
  have HG := hid (grown_b (b := b) (Below.refl _ w) 6 (.string x))
  clear h
  cases q with
  | true =>
    go_enter Tryz.func37, Tryz.ntmps37
    go_wp2_with fail
    go_ret
    refine ⟨by rw [HW.out]; rfl, HG.out, fun c' hc' => ?_⟩
    rw [HW.out] at hc'; cases hc'
  | false =>
    go_enter Tryz.func37, Tryz.ntmps37
    go_wp2_with fail
    go_ret
    refine ⟨by rw [HW.out]; rfl, HG.out, fun c' hc' => ?_⟩
    rw [HW.out] at hc'
    simp at hc'
    subst hc'
    exact ⟨pv, HX.out.setI 6 _ (by decide) rfl rfl⟩

theorem readWordC (b B f : Nat) (c : Cm) (pv : Value) (x : ByteArray) (m : Int) (w : World) (hf : f ≤ 5) (hs : x.size ≤ 1048576) (hm : w.cell? ⟨0, 0, none⟩ = some (.int .i64 m)) (h : CX w b B c pv) :
    Calls Tryz.prog 37 #[.pointer (some ⟨b, 0, none⟩), .int .i64 (f : Int), .string x] w fun e w' => RwP b B c f x w e w' := by
  rcases (show f = 0 ∨ f = 1 ∨ f = 2 ∨ f = 3 ∨ f = 4 ∨ f = 5 by omega) with rfl | rfl | rfl | rfl | rfl | rfl
  · exact readWord0 b B c pv x w hs h
  · exact readWord1 b B c pv x w hs h
  · exact readWord2 b B c pv x w hs h
  · exact readWord3 b B c pv x w hs h
  · exact readWord4 b B c pv x m w hs hm h
  · exact readWord5 b B c pv x w hs h
end Go.Proofs.YtemfhnnkkmiamaaGreatDoor
