import Derived.Test.YtemfhnnkkmiamaaGreatDoorPcp
import Derived.Test.YtemfhnnkkmiamaaGreatDoorPcq
import Derived.Test.YtemfhnnkkmiamaaGreatDoorPch
namespace Go.Proofs.YtemfhnnkkmiamaaGreatDoor
open Go.ChangeShapes Go.WideShapes Go.ChangeAt Go.RowKit
set_option linter.unusedVariables false
set_option linter.unusedSimpArgs false

theorem zeroCmd (w : World) : (zeroValue 40).run Tryz.prog w = .ok (cmdV none) w := by kernel_rfl
theorem forms_bd (x : ByteArray) : ∀ l ∈ formsW x, l.length ≤ 4 ∧ ∀ f ∈ l, f ≤ 5 := by
  unfold formsW
  repeat' split
  all_goals decide
theorem forms_len (x : ByteArray) : (formsW x).length ≤ 2 := by
  unfold formsW
  repeat' split
  all_goals decide
theorem find_none {α β : Type} {l : List α} {g : α → Option β} {k : Nat} {a : α} (h : (l.take k).findSome? g = none) (ha : l[k]? = some a) (hg : g a = none) : (l.take (k + 1)).findSome? g = none := by
  rw [List.take_add_one, ha, List.findSome?_append, h]
  simp [hg]
theorem find_some {α β : Type} {l : List α} {g : α → Option β} {k : Nat} {a : α} {b : β} (h : (l.take k).findSome? g = none) (ha : l[k]? = some a) (hg : g a = some b) : l.findSome? g = some b := by
  have e : l = l.take k ++ a :: l.drop (k + 1) := by
    have := List.take_append_drop k l
    rw [List.drop_eq_getElem_cons (List.getElem?_eq_some_iff.1 ha).1, (List.getElem?_eq_some_iff.1 ha).2] at this
    exact this.symm
  rw [e, List.findSome?_append, h]
  simp [hg]
set_option maxRecDepth 100000 in
set_option maxHeartbeats 4000000 in
theorem implParse (s : ByteArray) (m : Int) (w : World) (hs : s.size ≤ 1048576) (hx : ∀ i, (gS (cutW 32 s) i).size ≤ 1048576) (hm : w.cell? ⟨0, 0, none⟩ = some (.int .i64 m)) :
    Calls Tryz.prog 5 #[.string s] w fun e w' => RfP w (pcI s) e w' := by
  obtain ⟨R, hR⟩ : ∃ R, pcI s = R := ⟨_, rfl⟩
  rw [hR]
  unfold pcI at hR
  have hl := cut_len 32 s
  have hl0 := cut_ne 32 s
  obtain ⟨W1, hW1⟩ : ∃ W1, w.alloc (.cells #[.string ⟨#[]⟩, .int .i64 0, .int .i64 0, .int .i64 0, .int .i64 0, .slice none 0 0, .string ⟨#[]⟩] 24) = W1 := ⟨_, rfl⟩
  have b1 : Below w.heap.size w W1 := by rw [← hW1]; exact (Below.refl _ _).alloc (Nat.le_refl _) _
  have z1 : w.heap.size < W1.heap.size := by rw [← hW1]; simp
  have X1 : BxL W1 w.heap.size (cmV Cm.no (.slice none 0 0)) := by rw [← hW1]; exact (CX.made w ⟨#[]⟩).box
  have HS := hid (splitC 32 s m W1 hs (Cst.below b1 _ _ _ hm))
  obtain ⟨ws, hws⟩ : ∃ ws, cutW 32 s = ws := ⟨_, rfl⟩
  rw [hws] at HS hl hl0 hx hR
  obtain ⟨x0, hx0⟩ : ∃ x0, gS ws 0 = x0 := ⟨_, rfl⟩
  rw [hx0] at hR
  have hxs : x0.size ≤ 1048576 := by rw [← hx0]; exact hx 0
  have HR := hid hR
  have HX := hid hx
  have HM := hid hm
  have HX1 := hid X1
  have HB1 := hid b1
  have HZ1 := hid z1
  have HX0 := hid hx0
  clear hR hx hm X1 b1 z1 hws hx0
  go_enter Tryz.func5, Tryz.ntmps5
  go_wp2_with fail
  refine HS.out.mono ?_
  rintro e w2 ⟨rfl, hw2⟩
  have b2 : Below W1.heap.size W1 w2 := by rw [hw2]; exact (Below.refl _ _).alloc (Nat.le_refl _) _
  have WW : Wr w2 W1.heap.size 9 ws.length (fun i => .string (gS ws i)) := by rw [hw2]; exact made_wr W1 ws
  have c0 : w2.cell? ⟨W1.heap.size, 0, none⟩ = some (.string x0) := by rw [← HX0.out]; exact WW.cell (by omega)
  have zg := WW.lt
  have HWW := hid WW
  have HB2 := hid (keepS HB1.out b2)
  have HX2 := hid (HX1.out.below b2)
  clear hw2 b2 WW HS hW1 HX1 HB1
  obtain ⟨gw, hgw⟩ : ∃ gw, W1.heap.size = gw := ⟨_, rfl⟩
  rw [hgw] at c0 zg HWW HZ1 ⊢
  clear hgw
  have l0 : 0 < ws.length := by omega
  go_wp2_with fail
  have HCS : Hid (∀ w', Below w2.heap.size w2 w' → (Below w2.heap.size w2 w' ∧ w'.cell? ⟨gw, 0, none⟩ = some (.string x0))) := hid (fun w' hB => ⟨hB, (hB.cell (p := ⟨gw, _, none⟩) zg).trans c0⟩)
  refine wp_region_held_drew (S := fun w' => Below w2.heap.size w2 w' ∧ w'.cell? ⟨gw, 0, none⟩ = some (.string x0)) (by kernel_rfl) (HCS.out _ (Below.refl _ _).drew) (fun hHeld => ?_)
  refine take1 (i := 1) (d := some 12) (v := ?_) (by kernel_rfl) (by kernel_rfl) (by kernel_rfl) (by kernel_rfl) (fun _ _ _ h => h) ?_ hHeld ?_
  rotate_left
  · (intro o ho; simp only [List.getElem?_toArray, List.getElem?_cons_succ, List.getElem?_cons_zero, Option.some.injEq] at ho; subst ho; refine Or.inl ⟨by rfl, ?_⟩; intro w hSw; (try dsimp only at hSw); go_simp; try with_reducible rfl)
  try simp only [Act.put, List.setIfInBounds_toArray, List.set_cons_zero, List.set_cons_succ]
  refine take1 (i := 2) (d := some 13) (v := ?_) (by kernel_rfl) (by kernel_rfl) (by kernel_rfl) (by kernel_rfl) (fun _ _ _ h => h) ?_ hHeld ?_
  rotate_left
  · (intro o ho; simp only [List.getElem?_toArray, List.getElem?_cons_succ, List.getElem?_cons_zero, Option.some.injEq] at ho; subst ho; refine Or.inl ⟨by rfl, ?_⟩; intro w hSw; (try dsimp only at hSw); go_simp; try with_reducible rfl)
  try simp only [Act.put, List.setIfInBounds_toArray, List.set_cons_zero, List.set_cons_succ]
  refine take1 (i := 3) (d := some 14) (v := ?_) (by kernel_rfl) (by kernel_rfl) (by kernel_rfl) (by kernel_rfl) (fun _ _ _ h => h) ?_ hHeld ?_
  rotate_left
  · (intro o ho; simp only [List.getElem?_toArray, List.getElem?_cons_succ, List.getElem?_cons_zero, Option.some.injEq] at ho; subst ho; refine Or.inl ⟨by rfl, ?_⟩; intro w hSw; (try dsimp only at hSw); go_simp; try with_reducible rfl)
  try simp only [Act.put, List.setIfInBounds_toArray, List.set_cons_zero, List.set_cons_succ]
  refine take1 (i := 7) (d := some 18) (v := ?_) (by kernel_rfl) (by kernel_rfl) (by kernel_rfl) (by kernel_rfl) (fun _ _ _ h => h) ?_ hHeld ?_
  rotate_left
  · (intro o ho; simp only [List.getElem?_toArray, List.getElem?_cons_succ, List.getElem?_cons_zero, Option.some.injEq] at ho; subst ho; refine Or.inl ⟨by rfl, ?_⟩; intro w hSw; (try dsimp only at hSw); go_simp; try with_reducible rfl)
  try simp only [Act.put, List.setIfInBounds_toArray, List.set_cons_zero, List.set_cons_succ]
  refine call1 (i := 0) (d := some 11) (by kernel_rfl) (by kernel_rfl) ?_
  intro o ho hod K hK; simp only [List.getElem?_toArray, List.getElem?_cons_succ, List.getElem?_cons_zero, Option.some.injEq] at ho; subst ho
  go_simp
  refine (commandsC _).mono ?_
  rintro e w3 ⟨bm, cm, rfl, b3, hcb⟩
  have hB := keepS hHeld.1 b3
  refine hK.out _ _ (HCS.out _ hB) (fun hHeld => ?_)
  clear hK K
  try simp only [Act.put, List.setIfInBounds_toArray, List.set_cons_zero, List.set_cons_succ]
  obtain ⟨fa, fcap, fv, hlk, hfs⟩ := hcb.look (zeroCmd w3) x0 (by omega)
  have hnf := forms_len x0
  have HFB := hid (forms_bd x0)
  obtain ⟨F, hF⟩ : ∃ F, formsW x0 = F := ⟨_, rfl⟩
  rw [hF] at hlk hfs hnf HFB HR
  have HFS := hid hfs
  clear hF hfs
  refine call1 (i := 4) (d := some 15) (by kernel_rfl) (by kernel_rfl) ?_
  intro o ho hod K hK; simp only [List.getElem?_toArray, List.getElem?_cons_succ, List.getElem?_cons_zero, Option.some.injEq] at ho; subst ho
  go_simp
  refine hK.out _ _ hHeld (fun hHeld => ?_)
  clear hK K
  try simp only [Act.put, List.setIfInBounds_toArray, List.set_cons_zero, List.set_cons_succ]
  refine call1 (i := 5) (d := some 16) (by kernel_rfl) (by kernel_rfl) ?_
  intro o ho hod K hK; simp only [List.getElem?_toArray, List.getElem?_cons_succ, List.getElem?_cons_zero, Option.some.injEq] at ho; subst ho
  go_simp
  refine hK.out _ _ hHeld (fun hHeld => ?_)
  clear hK K
  try simp only [Act.put, List.setIfInBounds_toArray, List.set_cons_zero, List.set_cons_succ]
  refine call1 (i := 6) (d := some 17) (by kernel_rfl) (by kernel_rfl) ?_
  intro o ho hod K hK; simp only [List.getElem?_toArray, List.getElem?_cons_succ, List.getElem?_cons_zero, Option.some.injEq] at ho; subst ho
  go_simp
  refine hK.out _ _ hHeld (fun hHeld => ?_)
  clear hK K
  try simp only [Act.put, List.setIfInBounds_toArray, List.set_cons_zero, List.set_cons_succ]
  refine wpAnyH_done (by kernel_rfl) ?_ _
  have HB3 := hid (keepS HB2.out hB)
  have HX3 := hid (HX2.out.below hB)
  have HW3 := hid (HWW.out.below hB)
  clear hHeld hB b3 hlk HCS hcb HB2 HX2 HWW c0 zg
  go_wp2_with fail
  have hres : ∀ wr, Below w3.heap.size w3 wr → R = none → Hid True := fun _ _ _ => hid trivial
  clear hres
  go_loopw [18] (fun i wr => ∃ (k : Nat), k ≤ F.length ∧ i = .int .i64 k ∧ Hid (Below w3.heap.size w3 wr) ∧ Hid ((F.take k).findSome? (fun f => fmR { Cm.no with w := x0 } f ws.tail) = none)) (fun i _ => F.length - (intOf i).toNat)
  case atStart => exact ⟨0, Nat.zero_le _, rfl, hid (Below.refl _ _), hid (by simp)⟩
  case round =>
    obtain ⟨k, hk, rfl, HB, HN⟩ := hrel
    by_cases hlt : k < F.length
    · have i1 : (0 : Int) ≤ (k : Int) := Int.natCast_nonneg _
      have i2 : (k : Int) < (F.length : Int) := by omega
      obtain ⟨fs, hf⟩ : ∃ fs, F[k]? = some fs := ⟨_, List.getElem?_eq_getElem hlt⟩
      obtain ⟨bf, e, hrow⟩ : FSeg w3 fa F := by
        rcases HFS.out with h | h
        · rw [h] at hlt; simp at hlt
        · exact h
      subst e
      obtain ⟨fa', fc', hc, ⟨gf, e, hi⟩, _, _⟩ := hrow k fs hf
      subst e
      have st := Cst.below HB.out
      have c0 := st _ _ _ hc
      have hbd := HFB.out fs (List.mem_of_getElem? hf)
      have HC := hid (readFormC gw ws.length ws gf fc' fs m wr (by omega) hl0 hbd.1 HX.out (st _ _ _ (Cst.below HB3.out _ _ _ HM.out)) hbd.2 (fun i hi => st _ _ _ (HW3.out.cell hi)) (fun i x hx => st _ _ _ (hi i x hx)))
      rw [HX0.out] at HC
      clear hrow hc hi st hbd
      go_wp2_with fail
      refine HC.out.mono ?_
      rintro e w4 ⟨pv, rfl, b4, hpv⟩
      obtain ⟨O, hO⟩ : ∃ O, fmR { Cm.no with w := x0 } fs ws.tail = O := ⟨_, rfl⟩
      rw [hO] at hpv ⊢
      have HO := hid hO
      have HB4 := hid (HB.out.trans (b4.mono HB.out.size))
      clear HC hO
      obtain ⟨pa, pc, hpf, _⟩ := hpv.form
      subst hpf
      unfold cmA cmV
      obtain ⟨c, hc⟩ : ∃ c, O.getD Cm.no = c := ⟨_, rfl⟩
      rw [hc] at hpv ⊢
      have HCC := hid hc
      clear hc
      obtain ⟨W5, hW5⟩ : ∃ W5, w4.alloc (.cells #[.string c.w, .int .i64 c.a, .int .i64 c.b, .int .i64 c.n, .int .i64 c.x, .slice pa c.p.length pc, .string c.v] 24) = W5 := ⟨_, rfl⟩
      have b5 : Below w4.heap.size w4 W5 := by rw [← hW5]; exact (Below.refl _ _).alloc (Nat.le_refl _) _
      have X5 : BxL W5 w4.heap.size (cmV c (.slice pa c.p.length pc)) := by rw [← hW5]; exact BxL.made w4 _ _
      have HB5 := hid (keepS HB4.out b5)
      have HP5 := hid (hpv.below b5)
      have HX5 := hid X5
      have HZ : Hid (w.heap.size < wr.heap.size) := hid (by have := HB.out.size; have := HB3.out.size; have := HX3.out.lt; omega)
      clear b5 X5 hpv b4 HB4
      cases O with
      | none =>
        go_wp2_with fail
        go_roundw
        case rel => exact ⟨k + 1, hlt, by go_num, HB5, hid (find_none HN.out hf HO.out)⟩
        case measure => simp [intOf]; omega
      | some c1 =>
        have HE : Hid (R = some c) := hid (by rw [← HCC.out, ← HR.out]; exact find_some HN.out hf HO.out)
        have HR1 := HX3.out.below HB5.out
        have X5 := HX5.out
        obtain ⟨W9, hW9⟩ : ∃ W9, set7 W5 w.heap.size (.string c.w) (.int .i64 c.a) (.int .i64 c.b) (.int .i64 c.n) (.int .i64 c.x) (.slice pa c.p.length pc) (.string c.v) = W9 := ⟨_, rfl⟩
        have X9 : BxL W9 w.heap.size (cmV c (.slice pa c.p.length pc)) := by rw [← hW9]; exact set7_box HR1 _ _ _ _ _ _ _
        have HB9 : Hid (Below w.heap.size w W9) := hid (by rw [← hW9]; exact set7_below (keepS HB3.out HB5.out) (Nat.le_refl _) _ _ _ _ _ _ _)
        have HP9 : Hid (PV W9 w.heap.size (.slice pa c.p.length pc) c.p) := hid (by
          rw [← hW9]
          exact (HP5.out.set7 HZ.out _ _ _ _ _ _ _).wide (Nat.le_of_lt HZ.out))
        have k0 := HR1.c 0 _ rfl
        have k1 := HR1.c 1 _ rfl
        have k2 := HR1.c 2 _ rfl
        have k3 := HR1.c 3 _ rfl
        have k4 := HR1.c 4 _ rfl
        have k5 := HR1.c 5 _ rfl
        have k6 := HR1.c 6 _ rfl
        have fz := HR1.f
        have j0 := X5.c 0 _ rfl
        have j1 := X5.c 1 _ rfl
        have j2 := X5.c 2 _ rfl
        have j3 := X5.c 3 _ rfl
        have j4 := X5.c 4 _ rfl
        have j5 := X5.c 5 _ rfl
        have j6 := X5.c 6 _ rfl
        have q0 := X9.c 0 _ rfl
        have q1 := X9.c 1 _ rfl
        have q2 := X9.c 2 _ rfl
        have q3 := X9.c 3 _ rfl
        have q4 := X9.c 4 _ rfl
        have q5 := X9.c 5 _ rfl
        have q6 := X9.c 6 _ rfl
        unfold set7 at hW9
        clear X9 HR1 X5
        go_wp2_with fail
        refine bodyPost_ret (v := .tuple #[cmA c (.slice pa c.p.length pc), .bool true]) (by simp [results, Tryz.results5, go_sem, q0, q1, q2, q3, q4, q5, q6]; rfl) rfl ?_
        rw [HE.out]
        exact ⟨_, rfl, HB9.out, HP9.out⟩
    · obtain rfl : k = F.length := by omega
      have HE : Hid (R = none) := hid (by
        rw [← HR.out]
        have := HN.out
        rwa [List.take_of_length_le (Nat.le_refl _)] at this)
      have HR1 := HX3.out.below HB.out
      obtain ⟨W9, hW9⟩ : ∃ W9, set7 wr w.heap.size (.string ⟨#[]⟩) (.int .i64 0) (.int .i64 0) (.int .i64 0) (.int .i64 0) (.slice none 0 0) (.string ⟨#[]⟩) = W9 := ⟨_, rfl⟩
      have X9 : BxL W9 w.heap.size (cmV Cm.no (.slice none 0 0)) := by rw [← hW9]; exact set7_box HR1 _ _ _ _ _ _ _
      have HB9 : Hid (Below w.heap.size w W9) := hid (by rw [← hW9]; exact set7_below (keepS HB3.out HB.out) (Nat.le_refl _) _ _ _ _ _ _ _)
      have k0 := HR1.c 0 _ rfl
      have k1 := HR1.c 1 _ rfl
      have k2 := HR1.c 2 _ rfl
      have k3 := HR1.c 3 _ rfl
      have k4 := HR1.c 4 _ rfl
      have k5 := HR1.c 5 _ rfl
      have k6 := HR1.c 6 _ rfl
      have fz := HR1.f
      have q0 := X9.c 0 _ rfl
      have q1 := X9.c 1 _ rfl
      have q2 := X9.c 2 _ rfl
      have q3 := X9.c 3 _ rfl
      have q4 := X9.c 4 _ rfl
      have q5 := X9.c 5 _ rfl
      have q6 := X9.c 6 _ rfl
      unfold set7 at hW9
      clear X9 HR1
      go_wp2_with fail
      refine bodyPost_ret (v := .tuple #[cmA Cm.no (.slice none 0 0), .bool false]) (by simp [results, Tryz.results5, go_sem, q0, q1, q2, q3, q4, q5, q6]; rfl) rfl ?_
      rw [HE.out]
      exact RfP.none HB9.out
end Go.Proofs.YtemfhnnkkmiamaaGreatDoor
