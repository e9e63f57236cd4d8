import Derived.Test.YtlafjdehmcclhaaGreatMg38
import Derived.Test.YtlafjdehmcclhaaGreatMg22
namespace Go.Proofs.YtlafjdehmcclhaaGreat.fnExactPutState
open Go.ChangeShapes Go.WideShapes Go.ChangeAt Go.RowKit
set_option linter.unusedVariables false
set_option linter.unusedSimpArgs false

theorem own_at {w w' : World} {B e size n : Nat} {v : Value} {xs : List Value} (h : w.ownsRow B e size v n xs) (hk : ∀ g, v.ownBlock = some g → w'.heap[g]? = w.heap[g]?) : w'.ownsRow B e size v n xs := by
  obtain ⟨q1, q2⟩ := h
  refine ⟨q1, ?_⟩
  rcases q2 with q2 | ⟨g, cap, cur, e, hbg, hb, r⟩
  · exact .inl q2
  · subst e; exact .inr ⟨g, cap, cur, rfl, hbg, (hk g rfl).trans hb, r⟩
theorem own_low {w w' : World} {B e size n : Nat} {v : Value} {xs : List Value} (h : w.ownsRow B e size v n xs) (hb : Below w.heap.size w w') : w'.ownsRow B e size v n xs := own_at h fun g hg => hb.block g (h.lt g hg).2
theorem Own.low {w w' : World} {B : Nat} {v : Value} {zs : List Int} (h : Own w B v zs) (hb : Below w.heap.size w w') : Own w' B v zs := own_low h hb

structure KL (w wk : World) (vo vx : Value × Value) (b6 lo hi g4 h4 : Nat) (l : List Lf) (n : Nat) (R F T : Nat → Int) (zs : List Int) (vS vI : Value) (B4 B7 : Nat) : Prop where
  low : Below w.heap.size w wk
  box : Bx2 wk w.heap.size vo.1 vo.2
  xbox : Bx2 wk b6 vx.1 vx.2
  lf : LSeg wk (some ⟨g4, 0, none⟩) l
  rn : RSeg wk (some ⟨h4, 0, none⟩) n R F T
  hiLe : hi ≤ wk.heap.size
  lm : LMk wk lo hi g4 l
  ro : ∃ ys, wk.ownsRow lo 112 3 (.slice (some ⟨h4, 0, none⟩) n n) n ys
  oS : Own wk B4 vS zs
  oI : Own wk B7 vI zs
theorem KL.below {w wk wk' : World} {vo vx : Value × Value} {b6 lo hi g4 h4 : Nat} {l : List Lf} {n : Nat} {R F T : Nat → Int} {zs : List Int} {vS vI : Value} {B4 B7 : Nat} (h : KL w wk vo vx b6 lo hi g4 h4 l n R F T zs vS vI B4 B7) (hb : Below wk.heap.size wk wk') : KL w wk' vo vx b6 lo hi g4 h4 l n R F T zs vS vI B4 B7 :=
  ⟨keepS h.low hb, h.box.below hb h.box.lt, h.xbox.below hb h.xbox.lt, h.lf.below hb, h.rn.below hb, Nat.le_trans h.hiLe hb.size, h.lm.same (fun g _ h2 => hb.block g (Nat.lt_of_lt_of_le h2 h.hiLe)), by obtain ⟨ys, ho⟩ := h.ro; exact ⟨ys, own_low ho hb⟩, own_low h.oS hb, own_low h.oI hb⟩

structure KM (w wk : World) (vo : Value × Value) (zs : List Int) (vS vI : Value) (B4 B7 : Nat) : Prop where
  low : Below w.heap.size w wk
  box : Bx2 wk w.heap.size vo.1 vo.2
  oS : Own wk B4 vS zs
  oI : Own wk B7 vI zs
theorem Bx2.at' {w w' : World} {b : Nat} {v0 v1 : Value} (h : Bx2 w b v0 v1) (e : w'.heap[b]? = w.heap[b]?) (hs : w.heap.size ≤ w'.heap.size) : Bx2 w' b v0 v1 :=
  ⟨(World.cell?_of_block (a := ⟨b, 0, none⟩) e).trans h.c0, (World.cell?_of_block (a := ⟨b, 1, none⟩) e).trans h.c1, fun i => (World.frozen?_of_block (a := ⟨b, i, none⟩) e).trans (h.f i), Nat.lt_of_lt_of_le h.lt hs⟩
theorem KL.km {w wk wk' : World} {vo vx : Value × Value} {b6 lo hi g4 h4 : Nat} {l : List Lf} {n : Nat} {R F T : Nat → Int} {zs : List Int} {vS vI : Value} {B4 B7 : Nat} (h : KL w wk vo vx b6 lo hi g4 h4 l n R F T zs vS vI B4 B7) (hb : Btw lo hi wk wk') (h1 : w.heap.size < lo) (h2 : ∀ g, vS.ownBlock = some g → g < lo) (h3 : hi ≤ B7) : KM w wk' vo zs vS vI B4 B7 :=
  ⟨h.low.trans ⟨hb.os, hb.tape, hb.output, hb.size, fun g hg => hb.block g (by have := h.box.lt; omega) (.inl (by omega))⟩, Bx2.at' h.box (hb.block _ h.box.lt (.inl h1)) hb.size, own_at h.oS fun g hg => hb.block g (World.ownsRow.lt h.oS g hg).2 (.inl (h2 g hg)), own_at h.oI fun g hg => hb.block g (World.ownsRow.lt h.oI g hg).2 (.inr (by have := (World.ownsRow.lt h.oI g hg).1; omega))⟩
theorem KM.below {w wk wk' : World} {vo : Value × Value} {zs : List Int} {vS vI : Value} {B4 B7 : Nat} (h : KM w wk vo zs vS vI B4 B7) (hb : Below wk.heap.size wk wk') : KM w wk' vo zs vS vI B4 B7 :=
  ⟨keepS h.low hb, h.box.below hb h.box.lt, own_low h.oS hb, own_low h.oI hb⟩

structure KN (w wk : World) (vo : Value × Value) (zs : List Int) (vS : Value) (B4 : Nat) : Prop where
  low : Below w.heap.size w wk
  box : Bx2 wk w.heap.size vo.1 vo.2
  oS : Own wk B4 vS zs
theorem KN.below {w wk wk' : World} {vo : Value × Value} {zs : List Int} {vS : Value} {B4 : Nat} (h : KN w wk vo zs vS B4) (hb : Below wk.heap.size wk wk') : KN w wk' vo zs vS B4 :=
  ⟨keepS h.low hb, h.box.below hb h.box.lt, own_low h.oS hb⟩
theorem KM.kn {w wk wk' : World} {vo : Value × Value} {zs : List Int} {vS vI : Value} {B4 B7 : Nat} (h : KM w wk vo zs vS vI B4 B7) (hb : Below B7 wk wk') (h1 : w.heap.size < B7) (h2 : ∀ q, vS.ownBlock = some q → q < B7) : KN w wk' vo zs vS B4 :=
  ⟨h.low.trans (hb.mono (Nat.le_of_lt h1)), Bx2.at' h.box (hb.block _ h1) hb.size, own_at h.oS fun q hq => hb.block q (h2 q hq)⟩

set_option maxRecDepth 100000 in
set_option maxHeartbeats 4000000 in
theorem walk (a : Option Addr) (c : Nat) (l : List Lf) (x : Option Addr) (n d : Nat) (R F T : Nat → Int) (w : World) (hn : l.length ≤ 9223372036854775807) (hb : ∀ i, LfBig (gL l i)) (hi : ∀ i, LfI (gL l i)) (hm : n ≤ 9223372036854775807) (h : LSeg w a l) (h' : RSeg w x n R F T) :
    Calls Tryz.prog 3 #[.agg #[.slice a l.length c, .slice x n d]] w fun e w' => e = .returned (.bool true) ∧ Below w.heap.size w w' := by
  obtain ⟨W, hW⟩ : ∃ W, w.alloc (.cells #[.slice a l.length c, .slice x n d] 27) = W := ⟨_, rfl⟩
  have b0 : Below w.heap.size w W := by rw [← hW]; exact (Below.refl _ _).alloc (Nat.le_refl _) _
  have B0 : Bx2 W w.heap.size (.slice a l.length c) (.slice x n d) := by rw [← hW]; exact Bx2.made _ _ _ _
  have k0 := B0.c0
  have l0 := B0.c1
  have HSZ := hid (szStateC a c l x n d 1048576 W (by omega) (by omega) hn hm hb (h.below b0))
  have HL := hid h
  have HR := hid h'
  have HB0 := hid b0
  have HBx := hid B0
  clear h h' b0 hb B0
  go_enter Tryz.func3, Tryz.ntmps3
  go_wp2_with fail
  try rw [hW]
  clear hW
  refine HSZ.out.mono ?_
  rintro e w1 ⟨⟨k', rfl, hk0, hk1, hsm⟩, b1⟩
  have HBx1 := hid (HBx.out.below b1 HBx.out.lt)
  have HB1 := hid (keepS HB0.out b1)
  have HSM := hid hsm
  clear hsm b1 HSZ HB0 k0 l0 HBx
  by_cases hneg : k' < 0
  · have d0 : decide (k' < 0) = true := by simpa using hneg
    clear HSM
    go_wp2_with fail
    go_ret
    exact ⟨rfl, HB1.out⟩
  · have d0 : decide (k' < 0) = false := by simpa using hneg
    obtain ⟨⟨hl, hlf⟩, hr⟩ := HSM.out (by omega)
    have hp : LBd l := fun i => (hlf i).1.1
    have k0 := HBx1.out.c0
    have l0 := HBx1.out.c1
    clear HSM hlf
    go_wp2_with fail
    refine (toStateC a c l x n d R F T w1 hl hp hr (HL.out.below HB1.out) (HR.out.below HB1.out)).mono ?_
    rintro e w3 ⟨g2, h2, _, _, _, _, rfl, s2, r2, b2⟩
    have HB2 := hid (keepS HB1.out b2)
    have HBx2 := hid (HBx1.out.below b2 HBx1.out.lt)
    have HSP := hid (specPutState (some ⟨g2, 0, none⟩) l.length l (some ⟨h2, 0, none⟩) n n R F T w3 (Nat.le_refl _) hn hl hp hr s2.cap s2.seg r2)
    clear b2 s2 r2 k0 l0 HBx1
    go_wp2_with fail
    refine HSP.out.mono ?_
    rintro e w5 ⟨vS, zs, K, rfl, hZ, hoS, b5⟩
    have HZL : Hid (zs.length ≤ 4000) := hid (by have := psZ_len R F T n l; rw [hZ] at this; exact this)
    have HZ := hid hZ
    have HB5 := hid (keepS HB2.out b5)
    have HBx5 := hid (HBx2.out.below b5 HBx2.out.lt)
    have HOS5 := hid hoS
    have k5 := HBx5.out.c0
    have l5 := HBx5.out.c1
    clear b5 HSP HBx2 hoS hZ
    go_wp2_with fail
    refine (toStateC a c l x n d R F T w5 hl hp hr (HL.out.below HB5.out) (HR.out.below HB5.out)).mono ?_
    rintro e w6 ⟨g4, h4, hg41, ⟨hg42, hlm⟩, hh41, ⟨hh42, hro⟩, rfl, s4, r4, b4⟩
    obtain ⟨W5, hW5⟩ : ∃ W5, w6.alloc (.cells #[.slice (some ⟨g4, 0, none⟩) l.length l.length, .slice (some ⟨h4, 0, none⟩) n n] 37) = W5 := ⟨_, rfl⟩
    have b5 : Below w6.heap.size w6 W5 := by rw [← hW5]; exact (Below.refl _ _).alloc (Nat.le_refl _) _
    have z5 : W5.heap.size = w6.heap.size + 1 := by rw [← hW5]; simp
    have X5 : Bx2 W5 w6.heap.size (.slice (some ⟨g4, 0, none⟩) l.length l.length) (.slice (some ⟨h4, 0, none⟩) n n) := by rw [← hW5]; exact Bx2.made _ _ _ _
    have HX5 := hid X5
    have HS5 := hid (s4.seg.below b5)
    have HR5 := hid (r4.below b5)
    have HB6 := hid (keepS HB5.out (keepS b4 b5))
    have HBx6 := hid (HBx5.out.below (keepS b4 b5) HBx5.out.lt)
    have HLM := hid (hlm.same (fun g _ h2 => b5.block g h2))
    have HRO : Hid (∃ ys, W5.ownsRow w5.heap.size 112 3 (.slice (some ⟨h4, 0, none⟩) n n) n ys) := hid (by obtain ⟨ys, ho⟩ := hro; exact ⟨ys, own_low ho b5⟩)
    have HOS6 := hid (Own.low HOS5.out (keepS b4 b5))
    have HNum : Hid ((w.heap.size < w5.heap.size ∧ w5.heap.size ≤ w6.heap.size ∧ W5.heap.size = w6.heap.size + 1) ∧ w5.heap.size ≤ h4 ∧ h4 < w6.heap.size) := hid ⟨⟨HBx5.out.lt, b4.size, z5⟩, hh41, hh42⟩
    have HSlt : Hid (∀ g, vS.ownBlock = some g → g < w5.heap.size) := hid (fun g hg => (World.ownsRow.lt HOS5.out g hg).2)
    have x5 := X5.c0
    have y5 := X5.c1
    have HI5 := hid (implPutState _ l.length l _ n n R F T W5 hl hp hi hr HS5.out HR5.out)
    clear b4 s4 r4 b5 X5 k5 l5 HBx5 hlm hro hg41 hg42 hh41 hh42 z5 HOS5
    go_wp2_with fail
    try rw [hW5]
    clear hW5
    refine HI5.out.mono ?_
    rintro e w8 ⟨vI, zI, KI, rfl, hZI, hoI, b8⟩
    obtain ⟨rfl, rfl⟩ : zI = zs ∧ KI = K := by rw [HZ.out] at hZI; injection hZI with e1 e2; exact ⟨e1.symm, e2.symm⟩
    have HK : Hid (KL w w8 (.slice a l.length c, .slice x n d) (.slice (some ⟨g4, 0, none⟩) l.length l.length, .slice (some ⟨h4, 0, none⟩) n n) w6.heap.size w5.heap.size w6.heap.size g4 h4 l n R F T zI vS vI w3.heap.size W5.heap.size) := hid
      ⟨keepS HB6.out b8, HBx6.out.below b8 HBx6.out.lt, HX5.out.below b8 HX5.out.lt, HS5.out.below b8, HR5.out.below b8, by have := HX5.out.lt; have := b8.size; omega, HLM.out.same (fun g _ h2 => b8.block g (by have := HX5.out.lt; omega)), by obtain ⟨ys, ho⟩ := HRO.out; exact ⟨ys, own_low ho b8⟩, Own.low HOS6.out b8, hoI⟩
    have dK : (KI != KI) = false := by simp
    have dK2 : (KI == KI) = true := by simp
    have HE1 := hid (eqOwn HK.out.oI HK.out.oS (by have := HZL.out; omega))
    clear b8 hoI hZI x5 y5 HBx6 HX5 HS5 HR5 HLM HRO HOS6 HB6 HB5 HB2 HB1 HI5
    go_wp2_with fail
    refine HE1.out.mono ?_
    rintro e w9 ⟨rfl, b9⟩
    have HK9 := hid (HK.out.below b9)
    clear b9 HE1 HK
    go_wp2_with fail
    have HCS : Hid (∀ w', Below w9.heap.size w9 w' → (Below w9.heap.size w9 w' ∧ w'.cell? ⟨w6.heap.size, 0, none⟩ = some (.slice (some ⟨g4, 0, none⟩) l.length l.length) ∧ w'.cell? ⟨w6.heap.size, 1, none⟩ = some (.slice (some ⟨h4, 0, none⟩) n n) ∧ w'.cell? ⟨w.heap.size, 0, none⟩ = some (.slice a l.length c) ∧ w'.cell? ⟨w.heap.size, 1, none⟩ = some (.slice x n d))) := hid (fun w' hB => by
      have K := HK9.out.below hB
      exact ⟨hB, K.xbox.c0, K.xbox.c1, K.box.c0, K.box.c1⟩)
    refine wp_region_held_drew (S := fun w' => Below w9.heap.size w9 w' ∧ w'.cell? ⟨w6.heap.size, 0, none⟩ = some (.slice (some ⟨g4, 0, none⟩) l.length l.length) ∧ w'.cell? ⟨w6.heap.size, 1, none⟩ = some (.slice (some ⟨h4, 0, none⟩) n n) ∧ w'.cell? ⟨w.heap.size, 0, none⟩ = some (.slice a l.length c) ∧ w'.cell? ⟨w.heap.size, 1, none⟩ = some (.slice x n d)) (by kernel_rfl) (HCS.out _ (Below.refl _ _).drew) (fun hHeld => ?_)
    refine take1 (i := 0) (d := some 41) (v := ?_) (by kernel_rfl) (by kernel_rfl) (by kernel_rfl) (by kernel_rfl) (fun _ _ _ h => h) ?_ hHeld ?_
    rotate_left
    · (intro o ho; simp only [List.getElem?_toArray, List.getElem?_cons_succ, List.getElem?_cons_zero, Option.some.injEq] at ho; subst ho; refine Or.inl ⟨by rfl, ?_⟩; intro w hSw; (try dsimp only at hSw); go_simp; try with_reducible rfl)
    try simp only [Act.put, List.setIfInBounds_toArray, List.set_cons_zero, List.set_cons_succ]
    refine take1 (i := 1) (d := some 42) (v := ?_) (by kernel_rfl) (by kernel_rfl) (by kernel_rfl) (by kernel_rfl) (fun _ _ _ h => h) ?_ hHeld ?_
    rotate_left
    · (intro o ho; simp only [List.getElem?_toArray, List.getElem?_cons_succ, List.getElem?_cons_zero, Option.some.injEq] at ho; subst ho; refine Or.inl ⟨by rfl, ?_⟩; intro w hSw; (try dsimp only at hSw); go_simp; try with_reducible rfl)
    try simp only [Act.put, List.setIfInBounds_toArray, List.set_cons_zero, List.set_cons_succ]
    refine call1 (i := 2) (d := some 43) (by kernel_rfl) (by kernel_rfl) ?_
    intro o ho hod K hK; simp only [List.getElem?_toArray, List.getElem?_cons_succ, List.getElem?_cons_zero, Option.some.injEq] at ho; subst ho
    go_simp
    refine (toStateC a c l x n d R F T _ hl hp hr (HL.out.below (HK9.out.below hHeld.1).low) (HR.out.below (HK9.out.below hHeld.1).low)).mono ?_
    rintro e w10 ⟨g7, h7, _, _, _, _, rfl, s9, r9, b9⟩
    have hB9 := keepS hHeld.1 b9
    refine hK.out _ _ (HCS.out _ hB9) (fun hHeld => ?_)
    clear hK K
    try simp only [Act.put, List.setIfInBounds_toArray, List.set_cons_zero, List.set_cons_succ]
    refine call1 (i := 3) (d := some 44) (by kernel_rfl) (by kernel_rfl) ?_
    intro o ho hod K hK; simp only [List.getElem?_toArray, List.getElem?_cons_succ, List.getElem?_cons_zero, Option.some.injEq] at ho; subst ho
    go_simp
    refine (eqStateC _ _ l.length l.length l _ _ n n n R F T _ hl hp hr (HK9.out.below hB9).lf s9.seg (HK9.out.below hB9).rn r9).mono ?_
    rintro e w11 ⟨rfl, b10⟩
    have hB10 := keepS hB9 b10
    refine hK.out _ _ (HCS.out _ hB10) (fun hHeld => ?_)
    clear hK K
    try simp only [Act.put, List.setIfInBounds_toArray, List.set_cons_zero, List.set_cons_succ]
    refine take1 (i := 4) (d := some 45) (v := ?_) (by kernel_rfl) (by kernel_rfl) (by kernel_rfl) (by kernel_rfl) (fun _ _ _ h => h) ?_ hHeld ?_
    rotate_left
    · (intro o ho; simp only [List.getElem?_toArray, List.getElem?_cons_succ, List.getElem?_cons_zero, Option.some.injEq] at ho; subst ho; refine Or.inl ⟨by rfl, ?_⟩; intro w hSw; (try dsimp only at hSw); go_simp; try with_reducible rfl)
    try simp only [Act.put, List.setIfInBounds_toArray, List.set_cons_zero, List.set_cons_succ]
    refine wpAnyH_done (by kernel_rfl) ?_ _
    have HK11 := hid (HK9.out.below hB10)
    have x13 := HK11.out.xbox.c0
    have y13 := HK11.out.xbox.c1
    clear hHeld hB9 hB10 b9 b10 s9 r9 HCS HK9
    go_wp2_with fail
    obtain ⟨ys13, ho13⟩ := HK11.out.ro
    refine (markStateC w5.heap.size w6.heap.size g4 h4 n 1 l ys13 w11 (by omega) hl hp hr HK11.out.hiLe HNum.out.2 HK11.out.lm ho13).mono ?_
    rintro e w14 ⟨⟨k1, hk1, rfl⟩, bt14⟩
    have HKM14 := hid (HK11.out.km bt14 HNum.out.1.1 HSlt.out (by have := HNum.out.1.2.2; omega))
    have dm : decide ((k1 : Int) < 0) = false := by simp
    have HE16 := hid (eqOwn HKM14.out.oI HKM14.out.oS (by have := HZL.out; omega))
    clear bt14 ho13 x13 y13 HK11
    go_wp2_with fail
    refine HE16.out.mono ?_
    rintro e w16 ⟨rfl, b16⟩
    have HKM16 := hid (HKM14.out.below b16)
    have HMH := hid (markOwn HKM16.out.oI (by have := HZL.out; omega) 1 (by omega))
    clear b16 HE16 HKM14
    go_wp2_with fail
    refine HMH.out.mono ?_
    rintro e w17 ⟨rfl, b17, z17, a17, c17, hv17, s17⟩
    have HKN17 : Hid (KN w w17 (.slice a l.length c, .slice x n d) zI vS w3.heap.size) := hid (HKM16.out.kn b17 (by have := HNum.out.1; omega) (fun q hq => by have := HSlt.out q hq; have := HNum.out.1; omega))
    have HHD := hid (heldB a17 zI.length c17 1 w17 (by omega) (by have := HZL.out; omega) s17)
    obtain ⟨M, hM⟩ : ∃ M, 1 + zI.length = M := ⟨_, rfl⟩
    rw [hM] at HHD ⊢
    subst hv17
    have dM : decide ((M : Int) < 0) = false := by simp
    have dM2 : ((M : Int) != (M : Int)) = false := by simp
    clear b17 z17 s17 HMH HKM16 hM
    go_wp2_with fail
    refine HHD.out.mono ?_
    rintro e w18 ⟨rfl, rfl⟩
    have HKN18 := HKN17
    have k18 := HKN18.out.box.c0
    have l18 := HKN18.out.box.c1
    clear HHD HKN17
    go_wp2_with fail
    refine (toStateC a c l x n d R F T w18 hl hp hr (HL.out.below HKN18.out.low) (HR.out.below HKN18.out.low)).mono ?_
    rintro e w19 ⟨g8, h8, _, _, _, _, rfl, s8, r8, b19⟩
    have HKN19 := hid (HKN18.out.below b19)
    have HI20 := hid (implPutState _ l.length l _ n n R F T w19 hl hp hi hr s8.seg r8)
    clear s8 r8 b19 k18 l18 HKN18
    go_wp2_with fail
    refine HI20.out.mono ?_
    rintro e w21 ⟨v8, z8, K8, rfl, hZ8, ho8, b21⟩
    obtain ⟨rfl, rfl⟩ : z8 = zI ∧ K8 = KI := by rw [HZ.out] at hZ8; injection hZ8 with e1 e2; exact ⟨e1.symm, e2.symm⟩
    have HKN21 := hid (HKN19.out.below b21)
    have HE22 := hid (eqOwn ho8 HKN21.out.oS (by have := HZL.out; omega))
    clear ho8 hZ8 b21 HI20 HKN19
    go_wp2_with fail
    refine HE22.out.mono ?_
    rintro e w22 ⟨rfl, b22⟩
    have HZZ := hid (HKN21.out.below b22).low
    clear b22 HE22 HKN21
    go_wp2_with fail
    go_ret
    exact ⟨rfl, HZZ.out⟩

theorem own : ownKnob Tryz.prog.godebug = none := by kernel_rfl
theorem laidOut : laidOutB Tryz.prog = true := by kernel_rfl

set_option maxRecDepth 100000 in
theorem lifted (os : Os) (started : os.Started) (H : Type) (enc : TypeId × Value → H) :
    ReturnsInHanded {} Tryz.checked os 3 .any (Rows.fnExactPutStateSpec.pre6 enc Tryz.prog Tryz.f3 Rows.fnExactPutStateRow.domain false) (Rows.fnExactPutStateSpec.post enc Tryz.prog Tryz.f3 false true false false) := by
  refine returnsInHanded_of_change (C := Tryz.checked) own started (by kernel_rfl) Tryz.func3
    (ChangeSpec.witness6 (enc := enc) (C := Tryz.checked) false ⟨#[], #[.agg #[.slice none 0 0, .slice none 0 0]], []⟩ 8 (by kernel_rfl) (by kernel_rfl) (by kernel_rfl) (by kernel_rfl)) ?_
  intro W base args ds gs before hval0 hW hcnd _
  have hval : ∀ (j : Nat) t v, Tryz.f3.params[j]? = some t → args[j]? = some v → Value.okWide Tryz.prog W .any base t v := hval0
  have hW' := hW
  obtain ⟨p, q, hA0, hV, rfl, hfz, hnd⟩ := hW
  have hA : DataW.TrodAll enc Tryz.prog W 0 (fun _ => true) true Tryz.f3.params.toList args.toList ds p := hA0
  rw [Tryz.params3] at hA hval
  obtain ⟨v0, vs0, d0, ds0, p0, q0, hargs, rfl, rfl, h0, r0⟩ := trodAll_cons hA
  obtain ⟨rfl, rfl, rfl⟩ := trodAll_nil r0
  obtain rfl : args = #[v0] := by cases args; simp_all
  obtain ⟨rfl, rfl⟩ := trodVars_none hV
  have k0 := h0
  have lt0 : ∀ x ∈ p0, x.block < W.heap.size := by obtain ⟨m, hm⟩ := k0; exact DataW.trod_lt m _ _ _ hm
  obtain ⟨a0, c0, l0, x0, n0, e0, R0, F0, T0, rfl, hl0, w0, hb0, hi0, hn0, w1, _, _, _⟩ := openState (hval 0 27 v0 rfl rfl) h0
  clear hA0 hval0
  refine (walk a0 c0 l0 x0 n0 e0 R0 F0 T0 W hl0 hb0 hi0 hn0 w0 w1).mono fun e W' ⟨he, bel⟩ => ?_
  subst he
  exact ⟨_, rfl, _, _, _, [], _, [], hW', trodAll_mk1 (shut_bool Tryz.underlying4 _), (trodAll_cons_mk (Below.trod laidOut (by kernel_rfl) (of_decide_eq_true (by kernel_rfl)) k0 bel lt0) trodAll_mk0), rfl, bel.frame _, fun h => by cases h⟩

theorem over : Rows.fnExactPutStateRow.holds Tryz.pinned (OpenSpec.ofChange Rows.fnExactPutStateSpec) :=
  OpenClaim.holds_of_wide 3 Tryz.f3 rfl rfl rfl rfl rfl rfl rfl ⟨rfl, rfl, rfl, rfl, rfl⟩ rfl rfl rfl rfl rfl (by kernel_rfl) Tryz.func3 (by kernel_rfl)
    (of_decide_eq_true (by kernel_rfl)) (by unfold Func.isWrapper; first | (rw [if_pos (by decide +kernel)]; kernel_rfl) | (rw [if_neg (by decide +kernel)]; exact ⟨rfl, rfl⟩))
    (fun os started H enc _ => lifted os started H enc)
end Go.Proofs.YtlafjdehmcclhaaGreat.fnExactPutState

namespace Go.Proofs.YtlafjdehmcclhaaGreat
theorem putStateHolds : Rows.FnExactPutStateSaid := fnExactPutState.over
#print axioms putStateHolds
end Go.Proofs.YtlafjdehmcclhaaGreat
