import Derived.Test.YtdenbicnckkdfaaGreatMg45
import Derived.Test.YtdenbicnckkdfaaGreatMhLmk
namespace Go.Proofs.YtdenbicnckkdfaaGreat.fnExactFlush
open Go.ChangeShapes Go.WideShapes Go.ChangeAt Go.RowKit
set_option linter.unusedVariables false
set_option linter.unusedSimpArgs false

structure KS (w wk : World) (id : Int) (a x a' x' : Option Addr) (c d c' d' : Nat) (S S' D : Sx) (sa sx sa' sx' : Option Addr) (sc sd sc' sd' : Nat) (K : Int) (vS : Value) (zs : List Int) (bW bF : Nat) : Prop where
  low : Below w.heap.size w wk
  box : Bx5 wk w.heap.size (.int .i64 id) (.slice a S.l.length c) (.slice x S.n d) (.slice a' S'.l.length c') (.slice x' S'.n d')
  wb : Bx5 wk bW (.int .i64 id) (.slice sa S.l.length sc) (.slice sx S.n sd) (.slice sa' D.l.length sc') (.slice sx' D.n sd')
  wf : Bx2 wk bF (.int .i64 K) vS
  s1 : SAt wk sa sx S
  s2 : SAt wk sa' sx' D
  oS : ∃ B, Own wk B vS zs
theorem KS.below {w wk wk' : World} {id : Int} {a x a' x' : Option Addr} {c d c' d' : Nat} {S S' D : Sx} {sa sx sa' sx' : Option Addr} {sc sd sc' sd' : Nat} {K : Int} {vS : Value} {zs : List Int} {bW bF : Nat} (h : KS w wk id a x a' x' c d c' d' S S' D sa sx sa' sx' sc sd sc' sd' K vS zs bW bF) (hb : Below wk.heap.size wk wk') : KS w wk' id a x a' x' c d c' d' S S' D sa sx sa' sx' sc sd sc' sd' K vS zs bW bF :=
  ⟨keepS h.low hb, h.box.below hb h.box.lt, h.wb.below hb h.wb.lt, h.wf.below hb h.wf.lt, h.s1.below hb, h.s2.below hb, by obtain ⟨B, ho⟩ := h.oS; exact ⟨B, own_at5 ho fun q hq => hb.block q (World.ownsRow.lt ho q hq).2⟩⟩

structure KI (wk : World) (id : Int) (S D : Sx) (a x a' x' : Option Addr) (c d c' d' : Nat) (K : Int) (vI : Value) (zs : List Int) (lo m hi bG bF : Nat) : Prop where
  gb : Bx5 wk bG (.int .i64 id) (.slice a S.l.length c) (.slice x S.n d) (.slice a' D.l.length c') (.slice x' D.n d')
  gf : Bx2 wk bF (.int .i64 K) vI
  s1 : SOw wk lo m a x d S
  s2 : SOw wk m hi a' x' d' D
  oI : Own wk hi vI zs
theorem KI.below {wk wk' : World} {id : Int} {S D : Sx} {a x a' x' : Option Addr} {c d c' d' : Nat} {K : Int} {vI : Value} {zs : List Int} {lo m hi bG bF : Nat} (h : KI wk id S D a x a' x' c d c' d' K vI zs lo m hi bG bF) (hb : Below wk.heap.size wk wk') : KI wk' id S D a x a' x' c d c' d' K vI zs lo m hi bG bF :=
  ⟨h.gb.below hb h.gb.lt, h.gf.below hb h.gf.lt, h.s1.below hb, h.s2.below hb, own_at5 h.oI fun q hq => hb.block q (World.ownsRow.lt h.oI q hq).2⟩
theorem Bx2.at'' {w w' : World} {b : Nat} {v0 v1 : Value} (h : Bx2 w b v0 v1) (e : w'.heap[b]? = w.heap[b]?) (hs : w.heap.size ≤ w'.heap.size) : Bx2 w' b v0 v1 :=
  ⟨(World.cell?_of_block (a := ⟨b, 0, none⟩) e).trans h.c0, (World.cell?_of_block (a := ⟨b, 1, none⟩) e).trans h.c1, fun i => (World.frozen?_of_block (a := ⟨b, i, none⟩) e).trans (h.f i), Nat.lt_of_lt_of_le h.lt hs⟩
theorem Bx5.at' {w w' : World} {b : Nat} {v0 v1 v2 v3 v4 : Value} (h : Bx5 w b v0 v1 v2 v3 v4) (e : w'.heap[b]? = w.heap[b]?) (hs : w.heap.size ≤ w'.heap.size) : Bx5 w' b v0 v1 v2 v3 v4 :=
  ⟨(World.cell?_of_block (a := ⟨b, 0, none⟩) e).trans h.c0, (World.cell?_of_block (a := ⟨b, 1, none⟩) e).trans h.c1, (World.cell?_of_block (a := ⟨b, 2, none⟩) e).trans h.c2, (World.cell?_of_block (a := ⟨b, 3, none⟩) e).trans h.c3, (World.cell?_of_block (a := ⟨b, 4, none⟩) e).trans h.c4, fun i => (World.frozen?_of_block (a := ⟨b, i, none⟩) e).trans (h.f i), Nat.lt_of_lt_of_le h.lt hs⟩
theorem KI.btw {wk wk' : World} {id : Int} {S D : Sx} {a x a' x' : Option Addr} {c d c' d' : Nat} {K : Int} {vI : Value} {zs : List Int} {lo m hi bG bF l1 h1 : Nat} (h : KI wk id S D a x a' x' c d c' d' K vI zs lo m hi bG bF) (hb : Btw l1 h1 wk wk') (g1 : h1 ≤ lo) (g2 : h1 ≤ bG) (g3 : h1 ≤ bF) : KI wk' id S D a x a' x' c d c' d' K vI zs lo m hi bG bF := by
  have z1 := h.s1.hl
  have z2 := h.s2.hl
  exact ⟨Bx5.at' h.gb (hb.block _ h.gb.lt (.inr g2)) hb.size, Bx2.at'' h.gf (hb.block _ h.gf.lt (.inr g3)) hb.size, h.s1.same hb.size (fun q k1 k2 => hb.block q (by omega) (.inr (by omega))), h.s2.same hb.size (fun q k1 k2 => hb.block q (by omega) (.inr (by omega))), own_at5 h.oI fun q hq => hb.block q (World.ownsRow.lt h.oI q hq).2 (.inr (by have := (World.ownsRow.lt h.oI q hq).1; omega))⟩

set_option maxRecDepth 100000 in
set_option maxHeartbeats 20000000 in
theorem walk (id : Int) (a x a' x' : Option Addr) (c d c' d' : Nat) (S S' : Sx) (w : World) (hb : S.Big) (hb' : S'.Big) (h : SAt w a x S) (h' : SAt w a' x' S') :
    Calls Tryz.prog 3 #[.agg #[.int .i64 id, .slice a S.l.length c, .slice x S.n d, .slice a' S'.l.length c', .slice x' S'.n d']] w fun e w' => e = .returned (.bool true) ∧ Below w.heap.size w w' := by
  obtain ⟨W, hW⟩ : ∃ W, w.alloc (.cells #[.int .i64 id, .slice a S.l.length c, .slice x S.n d, .slice a' S'.l.length c', .slice x' S'.n d'] 29) = W := ⟨_, rfl⟩
  have b0 : Below w.heap.size w W := by rw [← hW]; exact (Below.refl _ _).alloc (Nat.le_refl _) _
  have B0 : Bx5 W w.heap.size (.int .i64 id) (.slice a S.l.length c) (.slice x S.n d) (.slice a' S'.l.length c') (.slice x' S'.n d') := by rw [← hW]; exact Bx5.new _ _ _ _ _ _ _
  have HSZ := hid (szReplicaC id a x a' x' c d c' d' S S' W hb hb' (h.below b0) (h'.below b0))
  have HL := hid h
  have HL' := hid h'
  have HI := hid (And.intro hb.i1 hb'.i1)
  have HB0 := hid b0
  have HX := hid B0
  have k0 := B0.c0
  have k1 := B0.c1
  have k2 := B0.c2
  have k3 := B0.c3
  have k4 := B0.c4
  clear h h' b0 B0
  go_enter Tryz.func3, Tryz.ntmps3
  go_wp2_with fail
  try rw [hW]
  clear hW
  refine HSZ.out.mono ?_
  rintro e w1 ⟨⟨k', rfl, hsm⟩, b1⟩
  have HX1 := hid (HX.out.below b1 HX.out.lt)
  have HB1 := hid (keepS HB0.out b1)
  have HSM := hid hsm
  clear hsm b1 HSZ HB0 k0 k1 k2 k3 k4 HX
  by_cases hneg : k' < 0
  · have d0 : decide (k' < 0) = true := by simpa using hneg
    clear HSM
    go_wp2_with fail
    go_ret
    exact ⟨rfl, HB1.out⟩
  · have d0 : decide (k' < 0) = false := by simpa using hneg
    obtain ⟨hm, hm'⟩ := HSM.out (by omega)
    have HM := hid (And.intro hm hm')
    have HT : Hid (∀ w1, Below w.heap.size w w1 → Calls Tryz.prog 6 #[.agg #[.int .i64 id, .slice a S.l.length c, .slice x S.n d, .slice a' S'.l.length c', .slice x' S'.n d']] w1 fun e w' => ∃ g k g' k' mid, e = .returned (.agg #[.int .i64 id, .slice (some ⟨g, 0, none⟩) S.l.length S.l.length, .slice (some ⟨k, 0, none⟩) S.n S.n, .slice (some ⟨g', 0, none⟩) S'.l.length S'.l.length, .slice (some ⟨k', 0, none⟩) S'.n S'.n]) ∧ SNw w' w1.heap.size mid g k S ∧ SNw w' mid w'.heap.size g' k' S' ∧ Below w1.heap.size w1 w') := hid (fun w1 hb1 => toReplicaC id a x a' x' c d c' d' S S' w1 hm hm' (HL.out.below hb1) (HL'.out.below hb1))
    obtain ⟨D, hD⟩ : ∃ D, flD id S S' = D := ⟨_, rfl⟩
    have HDm : Hid D.Sm := hid (by rw [← hD]; exact flD_sm hm')
    have HSPF : Hid (∀ g k g' k' lo mid hi w1, SNw w1 lo mid g k S → SNw w1 mid hi g' k' S' → Calls Tryz.prog 5 #[.agg #[.int .i64 id, .slice (some ⟨g, 0, none⟩) S.l.length S.l.length, .slice (some ⟨k, 0, none⟩) S.n S.n, .slice (some ⟨g', 0, none⟩) S'.l.length S'.l.length, .slice (some ⟨k', 0, none⟩) S'.n S'.n]] w1 (FlS id S D (flZ id S S') w1)) := hid (fun g k g' k' lo mid hi w1 h1 h2 => by rw [← hD]; exact specFlush id g k g' k' lo mid hi S S' w1 hb.l1 hb'.l1 hm hm' h1 h2)
    have HIMF : Hid (∀ g k g' k' lo mid hi w1, SNw w1 lo mid g k S → SNw w1 mid hi g' k' S' → Calls Tryz.prog 7 #[.agg #[.int .i64 id, .slice (some ⟨g, 0, none⟩) S.l.length S.l.length, .slice (some ⟨k, 0, none⟩) S.n S.n, .slice (some ⟨g', 0, none⟩) S'.l.length S'.l.length, .slice (some ⟨k', 0, none⟩) S'.n S'.n]] w1 (FlI id S D (flZ id S S') w1)) := hid (fun g k g' k' lo mid hi w1 h1 h2 => by rw [← hD]; exact implFlush id g k g' k' lo mid hi S S' w1 HI.out.1 HI.out.2 hm hm' h1 h2)
    have HZL0 := hid (flZ_len id S S')
    obtain ⟨Z, hZ⟩ : ∃ Z, flZ id S S' = Z := ⟨_, rfl⟩
    rw [hZ] at HSPF HIMF HZL0
    have k0 := HX1.out.c0
    have k1 := HX1.out.c1
    have k2 := HX1.out.c2
    have k3 := HX1.out.c3
    have k4 := HX1.out.c4
    clear HSM hm hm' hD hZ
    go_wp2_with fail
    refine (HT.out w1 HB1.out).mono ?_
    rintro e w3 ⟨g2, h2, g3, h3, mid, rfl, s2, s3, b2⟩
    have HX2 := hid (HX1.out.below b2 HX1.out.lt)
    have HB2 := hid (keepS HB1.out b2)
    have HSP := hid (HSPF.out g2 h2 g3 h3 _ _ _ w3 s2 s3)
    clear b2 s2 s3 HB1 HX1 k0 k1 k2 k3 k4 HSPF
    go_wp2_with fail
    refine HSP.out.mono ?_
    rintro e w5 ⟨sa, sc, sx, sd, sa', sc', sx', sd', K, vS, zs, Y, rfl, t1, t2, hZ, hoS, b5⟩
    have HZL : Hid (zs.length ≤ 4000) := hid (by have := HZL0.out; rw [hZ] at this; exact this)
    have HZ := hid hZ
    obtain ⟨aS, cS, rfl, _⟩ := hoS.any
    obtain ⟨w5b, hw5b⟩ : ∃ w5b, (w5.alloc (.cells #[.int .i64 id, .slice sa S.l.length sc, .slice sx S.n sd, .slice sa' D.l.length sc', .slice sx' D.n sd'] 38)).alloc (.cells #[.int .i64 K, .slice aS zs.length cS] 41) = w5b := ⟨_, rfl⟩
    have b5b : Below w5.heap.size w5 w5b := by rw [← hw5b]; exact below2 _ _ _
    have HKS : Hid (KS w w5b id a x a' x' c d c' d' S S' D sa sx sa' sx' sc sd sc' sd' K (.slice aS zs.length cS) zs w5.heap.size (w5.heap.size + 1)) := hid ⟨keepS HB2.out (keepS b5 b5b), HX2.out.below (keepS b5 b5b) HX2.out.lt, by rw [← hw5b]; exact (Bx5.new _ _ _ _ _ _ _).up _, by
      rw [← hw5b]
      have := Bx2.made (w5.alloc (.cells #[.int .i64 id, .slice sa S.l.length sc, .slice sx S.n sd, .slice sa' D.l.length sc', .slice sx' D.n sd'] 38)) (.int .i64 K) (.slice aS zs.length cS) 41
      simpa using this, t1.below b5b, t2.below b5b, _, own_at5 hoS fun q hq => b5b.block q (World.ownsRow.lt hoS q hq).2⟩
    have k0 := HKS.out.box.c0
    have k1 := HKS.out.box.c1
    have k2 := HKS.out.box.c2
    have k3 := HKS.out.box.c3
    have k4 := HKS.out.box.c4
    clear b5 b5b HSP HX2 hoS hZ t1 t2 HB2 HZL0
    go_wp2_with fail
    try rw [hw5b]
    clear hw5b
    refine (HT.out w5b HKS.out.low).mono ?_
    rintro e w6 ⟨g4, h4, g5, h5, mid4, rfl, s4, s5, b4⟩
    obtain ⟨W5, hW5⟩ : ∃ W5, w6.alloc (.cells #[.int .i64 id, .slice (some ⟨g4, 0, none⟩) S.l.length S.l.length, .slice (some ⟨h4, 0, none⟩) S.n S.n, .slice (some ⟨g5, 0, none⟩) S'.l.length S'.l.length, .slice (some ⟨h5, 0, none⟩) S'.n S'.n] 38) = W5 := ⟨_, rfl⟩
    have b5 : Below w6.heap.size w6 W5 := by rw [← hW5]; exact (Below.refl _ _).alloc (Nat.le_refl _) _
    have z5 : W5.heap.size = w6.heap.size + 1 := by rw [← hW5]; simp
    have X5 : Bx5 W5 w6.heap.size (.int .i64 id) (.slice (some ⟨g4, 0, none⟩) S.l.length S.l.length) (.slice (some ⟨h4, 0, none⟩) S.n S.n) (.slice (some ⟨g5, 0, none⟩) S'.l.length S'.l.length) (.slice (some ⟨h5, 0, none⟩) S'.n S'.n) := by rw [← hW5]; exact Bx5.new _ _ _ _ _ _ _
    have HN4 := hid (s4.below b5)
    have HN5 := hid (s5.below b5)
    have HLo := hid (keepS b4 b5)
    have HNum : Hid (w.heap.size < w5b.heap.size ∧ w5b.heap.size ≤ w6.heap.size ∧ W5.heap.size = w6.heap.size + 1) := hid ⟨HKS.out.box.lt, b4.size, z5⟩
    have HXI := hid X5
    have HIM := hid (HIMF.out g4 h4 g5 h5 _ _ _ W5 HN4.out HN5.out)
    have x0 := X5.c0
    have x1 := X5.c1
    have x2 := X5.c2
    have x3 := X5.c3
    have x4 := X5.c4
    clear b4 s4 s5 b5 X5 k0 k1 k2 k3 k4 z5
    go_wp2_with fail
    try rw [hW5]
    clear hW5
    refine HIM.out.mono ?_
    rintro e w8 ⟨ia, ic, ix, idd, ia', ic', ix', idd', m8, h8, KI', vI, zI, YI, rfl, u1, u2, hZI, hoI, b8⟩
    obtain ⟨rfl, rfl, rfl⟩ : KI' = K ∧ zI = zs ∧ YI = Y := by rw [HZ.out] at hZI; injection hZI with e1 e2; injection e2 with e2 e3; exact ⟨e1.symm, e2.symm, e3.symm⟩
    obtain ⟨aI, cI, rfl, _⟩ := hoI.any
    obtain ⟨w8b, hw8b⟩ : ∃ w8b, (w8.alloc (.cells #[.int .i64 id, .slice ia S.l.length ic, .slice ix S.n idd, .slice ia' D.l.length ic', .slice ix' D.n idd'] 38)).alloc (.cells #[.int .i64 KI', .slice aI zI.length cI] 41) = w8b := ⟨_, rfl⟩
    have b8b : Below w8.heap.size w8 w8b := by rw [← hw8b]; exact below2 _ _ _
    have bb := keepS b8 b8b
    have HKI : Hid (KI w8b id S D ia ix ia' ix' ic idd ic' idd' KI' (.slice aI zI.length cI) zI W5.heap.size m8 h8 w8.heap.size (w8.heap.size + 1)) := hid ⟨by rw [← hw8b]; exact (Bx5.new _ _ _ _ _ _ _).up _, by
      rw [← hw8b]
      have := Bx2.made (w8.alloc (.cells #[.int .i64 id, .slice ia S.l.length ic, .slice ix S.n idd, .slice ia' D.l.length ic', .slice ix' D.n idd'] 38)) (.int .i64 KI') (.slice aI zI.length cI) 41
      simpa using this, u1.below b8b, u2.below b8b, own_at5 hoI fun q hq => b8b.block q (World.ownsRow.lt hoI q hq).2⟩
    have HLo8 := hid (keepS HLo.out bb)
    have HN48 := hid (HN4.out.below bb)
    have HN58 := hid (HN5.out.below bb)
    have HX8 := hid (HXI.out.below bb HXI.out.lt)
    have HSM8 : Hid (h8 ≤ w8.heap.size ∧ m8 ≤ h8 ∧ W5.heap.size ≤ m8) := hid ⟨u2.hl.2, u2.hl.1, u1.hl.1⟩
    have HIlt : Hid ((∀ q, (Value.slice aI zI.length cI).ownBlock = some q → q < w8.heap.size) ∧ W5.heap.size ≤ w8.heap.size) := hid ⟨fun q hq => (World.ownsRow.lt hoI q hq).2, b8.size⟩
    have HKS8 := hid (HKS.out.below HLo8.out)
    have dK : (YI != YI) = false := by simp
    have dK2 : (YI == YI) = true := by simp
    obtain ⟨BS8, oS8⟩ := HKS8.out.oS
    have HE1 := hid (eqReplicaC id ia ix ia' ix' sa sx sa' sx' ic idd ic' idd' sc sd sc' sd' S D w8b HM.out.1 HDm.out HKI.out.s1.at HKI.out.s2.at HKS8.out.s1 HKS8.out.s2)
    have y0 := HKI.out.gb.c0
    have y1 := HKI.out.gb.c1
    have y2 := HKI.out.gb.c2
    have y3 := HKI.out.gb.c3
    have y4 := HKI.out.gb.c4
    have z0 := HKS8.out.wb.c0
    have z1 := HKS8.out.wb.c1
    have z2 := HKS8.out.wb.c2
    have z3 := HKS8.out.wb.c3
    have z4 := HKS8.out.wb.c4
    have u0 := HKI.out.gf.c0
    have u1 := HKI.out.gf.c1
    have v0 := HKS8.out.wf.c0
    have v1 := HKS8.out.wf.c1
    clear b8 b8b bb u1 u2 hoI hZI x0 x1 x2 x3 x4 HIM HN4 HN5 HXI HLo
    go_wp2_with fail
    try rw [hw8b]
    clear hw8b
    refine HE1.out.mono ?_
    rintro e w8c ⟨rfl, b8c⟩
    have HKIc := hid (HKI.out.below b8c)
    have HLoc := hid (keepS HLo8.out b8c)
    have HKSc := hid (HKS.out.below HLoc.out)
    obtain ⟨BSc, oSc⟩ := HKSc.out.oS
    have HE1b := hid (eqFrameO KI' _ _ zI _ _ w8c (by have := HZL.out; omega) HKIc.out.oI oSc)
    have HXc := hid (HX8.out.below b8c HX8.out.lt)
    have HN4c := hid (HN48.out.below b8c)
    have HN5c := hid (HN58.out.below b8c)
    clear y0 y1 y2 y3 y4 z0 z1 z2 z3 z4 u0 u1 v0 v1 b8c HE1 oS8 oSc HX8 HN48 HN58 HKI HKS8 HLo8
    have u0 := HKIc.out.gf.c0
    have u1 := HKIc.out.gf.c1
    have v0 := HKSc.out.wf.c0
    have v1 := HKSc.out.wf.c1
    go_wp2_with fail
    refine HE1b.out.mono ?_
    rintro e w9 ⟨rfl, b9⟩
    have HKI9 := hid (HKIc.out.below b9)
    have HLo9 := hid (keepS HLoc.out b9)
    have HX9 := hid (HXc.out.below b9 HXc.out.lt)
    have HN49 := hid (HN4c.out.below b9)
    have HN59 := hid (HN5c.out.below b9)
    clear u0 u1 v0 v1 b9 HE1b HKIc HXc HN4c HN5c HKSc HLoc
    go_wp2_with fail
    have HCS : Hid (∀ w', Below w9.heap.size w9 w' → (Below w9.heap.size w9 w' ∧ (w'.cell? ⟨w6.heap.size, 0, none⟩ = some (.int .i64 id) ∧ w'.cell? ⟨w6.heap.size, 1, none⟩ = some (.slice (some ⟨g4, 0, none⟩) S.l.length S.l.length) ∧ w'.cell? ⟨w6.heap.size, 2, none⟩ = some (.slice (some ⟨h4, 0, none⟩) S.n S.n) ∧ w'.cell? ⟨w6.heap.size, 3, none⟩ = some (.slice (some ⟨g5, 0, none⟩) S'.l.length S'.l.length) ∧ w'.cell? ⟨w6.heap.size, 4, none⟩ = some (.slice (some ⟨h5, 0, none⟩) S'.n S'.n)) ∧ w'.cell? ⟨w.heap.size, 0, none⟩ = some (.int .i64 id) ∧ w'.cell? ⟨w.heap.size, 1, none⟩ = some (.slice a S.l.length c) ∧ w'.cell? ⟨w.heap.size, 2, none⟩ = some (.slice x S.n d) ∧ w'.cell? ⟨w.heap.size, 3, none⟩ = some (.slice a' S'.l.length c') ∧ w'.cell? ⟨w.heap.size, 4, none⟩ = some (.slice x' S'.n d'))) := hid (fun w' hB => by
      have K := HKS.out.below (keepS HLo9.out hB)
      have X := HX9.out.below hB HX9.out.lt
      exact ⟨hB, ⟨X.c0, X.c1, X.c2, X.c3, X.c4⟩, K.box.c0, K.box.c1, K.box.c2, K.box.c3, K.box.c4⟩)
    refine wp_region_held_drew (S := fun w' => Below w9.heap.size w9 w' ∧ (w'.cell? ⟨w6.heap.size, 0, none⟩ = some (.int .i64 id) ∧ w'.cell? ⟨w6.heap.size, 1, none⟩ = some (.slice (some ⟨g4, 0, none⟩) S.l.length S.l.length) ∧ w'.cell? ⟨w6.heap.size, 2, none⟩ = some (.slice (some ⟨h4, 0, none⟩) S.n S.n) ∧ w'.cell? ⟨w6.heap.size, 3, none⟩ = some (.slice (some ⟨g5, 0, none⟩) S'.l.length S'.l.length) ∧ w'.cell? ⟨w6.heap.size, 4, none⟩ = some (.slice (some ⟨h5, 0, none⟩) S'.n S'.n)) ∧ w'.cell? ⟨w.heap.size, 0, none⟩ = some (.int .i64 id) ∧ w'.cell? ⟨w.heap.size, 1, none⟩ = some (.slice a S.l.length c) ∧ w'.cell? ⟨w.heap.size, 2, none⟩ = some (.slice x S.n d) ∧ w'.cell? ⟨w.heap.size, 3, none⟩ = some (.slice a' S'.l.length c') ∧ w'.cell? ⟨w.heap.size, 4, none⟩ = some (.slice x' S'.n d')) (by kernel_rfl) (HCS.out _ (Below.refl _ _).drew) (fun hHeld => ?_)
    refine take1 (i := 0) (d := some 52) (v := ?_) (by kernel_rfl) (by kernel_rfl) (by kernel_rfl) (by kernel_rfl) (fun _ _ _ h => h) ?_ hHeld ?_
    rotate_left
    · (intro o ho; simp only [List.getElem?_toArray, List.getElem?_cons_succ, List.getElem?_cons_zero, Option.some.injEq] at ho; subst ho; refine Or.inl ⟨by rfl, ?_⟩; intro w hSw; (try dsimp only at hSw); go_simp; try with_reducible rfl)
    try simp only [Act.put, List.setIfInBounds_toArray, List.set_cons_zero, List.set_cons_succ]
    refine take1 (i := 1) (d := some 53) (v := ?_) (by kernel_rfl) (by kernel_rfl) (by kernel_rfl) (by kernel_rfl) (fun _ _ _ h => h) ?_ hHeld ?_
    rotate_left
    · (intro o ho; simp only [List.getElem?_toArray, List.getElem?_cons_succ, List.getElem?_cons_zero, Option.some.injEq] at ho; subst ho; refine Or.inl ⟨by rfl, ?_⟩; intro w hSw; (try dsimp only at hSw); go_simp; try with_reducible rfl)
    try simp only [Act.put, List.setIfInBounds_toArray, List.set_cons_zero, List.set_cons_succ]
    refine call1 (i := 2) (d := some 54) (by kernel_rfl) (by kernel_rfl) ?_
    intro o ho hod K hK; simp only [List.getElem?_toArray, List.getElem?_cons_succ, List.getElem?_cons_zero, Option.some.injEq] at ho; subst ho
    go_simp
    refine (HT.out _ (HKS.out.below (keepS HLo9.out hHeld.1)).low).mono ?_
    rintro e w10 ⟨g7, h7, g8, h8', mid7, rfl, s7, s8, b10⟩
    have hB9 := keepS hHeld.1 b10
    refine hK.out _ _ (HCS.out _ hB9) (fun hHeld => ?_)
    clear hK K
    try simp only [Act.put, List.setIfInBounds_toArray, List.set_cons_zero, List.set_cons_succ]
    refine call1 (i := 3) (d := some 55) (by kernel_rfl) (by kernel_rfl) ?_
    intro o ho hod K hK; simp only [List.getElem?_toArray, List.getElem?_cons_succ, List.getElem?_cons_zero, Option.some.injEq] at ho; subst ho
    go_simp
    refine (eqReplicaC id _ _ _ _ _ _ _ _ S.l.length S.n S'.l.length S'.n S.l.length S.n S'.l.length S'.n S S' _ HM.out.1 HM.out.2 (HN49.out.below hB9).at (HN59.out.below hB9).at s7.at s8.at).mono ?_
    rintro e w11 ⟨rfl, b11⟩
    have hB10 := keepS hB9 b11
    refine hK.out _ _ (HCS.out _ hB10) (fun hHeld => ?_)
    clear hK K
    try simp only [Act.put, List.setIfInBounds_toArray, List.set_cons_zero, List.set_cons_succ]
    refine take1 (i := 4) (d := some 56) (v := ?_) (by kernel_rfl) (by kernel_rfl) (by kernel_rfl) (by kernel_rfl) (fun _ _ _ h => h) ?_ hHeld ?_
    rotate_left
    · (intro o ho; simp only [List.getElem?_toArray, List.getElem?_cons_succ, List.getElem?_cons_zero, Option.some.injEq] at ho; subst ho; refine Or.inl ⟨by rfl, ?_⟩; intro w hSw; (try dsimp only at hSw); go_simp; try with_reducible rfl)
    try simp only [Act.put, List.setIfInBounds_toArray, List.set_cons_zero, List.set_cons_succ]
    refine wpAnyH_done (by kernel_rfl) ?_ _
    have HKI11 := hid (HKI9.out.below hB10)
    have HLo11 := hid (keepS HLo9.out hB10)
    have HX11 := HX9.out.below hB10 HX9.out.lt
    have HMK := hid (markReplicaC id g4 h4 g5 h5 w5b.heap.size mid4 w6.heap.size S S' w11 HM.out.1 HM.out.2 (HN49.out.below hB10) (HN59.out.below hB10))
    have x0 := HX11.c0
    have x1 := HX11.c1
    have x2 := HX11.c2
    have x3 := HX11.c3
    have x4 := HX11.c4
    clear hHeld hB9 hB10 b10 b11 s7 s8 HCS HKI9 HLo9 HX9 HN49 HN59 HX11
    go_wp2_with fail
    refine HMK.out.mono ?_
    rintro e w14 ⟨⟨m1, rfl⟩, bt14⟩
    have hn := HNum.out
    have hil := HIlt.out.2
    have HKI14 := hid (HKI11.out.btw bt14 (by omega) (by omega) (by omega))
    have HLo14 : Hid (Below w5b.heap.size w5b w14) := hid (HLo11.out.trans (bt14.low (by have := HLo11.out.size; omega)))
    have HKS14 := hid (HKS.out.below HLo14.out)
    obtain ⟨BS14, oS14⟩ := HKS14.out.oS
    have dm : decide ((m1 : Int) < 0) = false := by simp
    have HE14 := hid (eqReplicaC id ia ix ia' ix' sa sx sa' sx' ic idd ic' idd' sc sd sc' sd' S D w14 HM.out.1 HDm.out HKI14.out.s1.at HKI14.out.s2.at HKS14.out.s1 HKS14.out.s2)
    have y0 := HKI14.out.gb.c0
    have y1 := HKI14.out.gb.c1
    have y2 := HKI14.out.gb.c2
    have y3 := HKI14.out.gb.c3
    have y4 := HKI14.out.gb.c4
    have z0 := HKS14.out.wb.c0
    have z1 := HKS14.out.wb.c1
    have z2 := HKS14.out.wb.c2
    have z3 := HKS14.out.wb.c3
    have z4 := HKS14.out.wb.c4
    clear bt14 x0 x1 x2 x3 x4 HKI11 HLo11 HMK hn hil oS14
    go_wp2_with fail
    refine HE14.out.mono ?_
    rintro e w15 ⟨rfl, b15⟩
    have HKI15 := hid (HKI14.out.below b15)
    have HLo15 := hid (keepS HLo14.out b15)
    have HKS15 := hid (HKS.out.below HLo15.out)
    obtain ⟨BS15, oS15⟩ := HKS15.out.oS
    have HE15 := hid (eqFrameO KI' _ _ zI _ _ w15 (by have := HZL.out; omega) HKI15.out.oI oS15)
    clear y0 y1 y2 y3 y4 z0 z1 z2 z3 z4 b15 HE14 HKI14 HLo14 HKS14 oS15
    have u0 := HKI15.out.gf.c0
    have u1 := HKI15.out.gf.c1
    have v0 := HKS15.out.wf.c0
    have v1 := HKS15.out.wf.c1
    go_wp2_with fail
    refine HE15.out.mono ?_
    rintro e w16 ⟨rfl, b16⟩
    have HKI16 := hid (HKI15.out.below b16)
    have HLo16 := hid (keepS HLo15.out b16)
    have HMR := hid (markReplicaO id (c := ic) (c' := ic') HM.out.1 HDm.out HKI16.out.s1 HKI16.out.s2)
    clear u0 u1 v0 v1 b16 HE15 HKI15 HLo15 HKS15
    have y0 := HKI16.out.gb.c0
    have y1 := HKI16.out.gb.c1
    have y2 := HKI16.out.gb.c2
    have y3 := HKI16.out.gb.c3
    have y4 := HKI16.out.gb.c4
    have hE1 := (mE_le HM.out.1 1).1
    have hE2 := (mE_le HDm.out (mE S 1)).1
    obtain ⟨E2, hE2'⟩ : ∃ E2, mE D (mE S 1) = E2 := ⟨_, rfl⟩
    rw [hE2'] at HMR hE2
    have HE2 := hid hE2'
    have HEb : Hid (E2 ≤ 9000000000000) := hid (by omega)
    clear hE2' hE1 hE2
    go_wp2_with fail
    refine HMR.out.mono ?_
    rintro e w17 ⟨rfl, bt17, mk1, mk2⟩
    have hn := HNum.out
    have hil := HIlt.out
    have hsz1 := HKI16.out.s1.hl
    have hsz2 := HKI16.out.s2.hl
    have hGb := HKI16.out.gb.lt
    have hGf := HKI16.out.gf.lt
    have hh8 := HSM8.out
    have HGB17 := hid (Bx5.at' HKI16.out.gb (bt17.block _ hGb (.inr (by omega))) bt17.size)
    have HGF17 := hid (Bx2.at'' HKI16.out.gf (bt17.block _ hGf (.inr (by omega))) bt17.size)
    have HOI17 : Hid (Own w17 h8 (.slice aI zI.length cI) zI) := hid (own_at5 HKI16.out.oI fun q hq => bt17.block q (World.ownsRow.lt HKI16.out.oI q hq).2 (.inr (World.ownsRow.lt HKI16.out.oI q hq).1))
    have HLo17 : Hid (Below w5b.heap.size w5b w17) := hid (HLo16.out.trans ((bt17.low (by omega)).mono (by omega)))
    have HMk1 := hid mk1
    have HMk2 := hid mk2
    have HMF := hid (markFrame9 KI' _ zI h8 E2 w17 HEb.out (by have := HZL.out; omega) (by have := bt17.size; omega) HOI17.out)
    clear y0 y1 y2 y3 y4 bt17 mk1 mk2 HMR HKI16 HLo16 hsz1 hsz2 hGb hGf hn hh8 hil
    have u0 := HGF17.out.c0
    have u1 := HGF17.out.c1
    go_wp2_with fail
    refine HMF.out.mono ?_
    rintro e w18 ⟨rfl, b18, ⟨a18, c18, hv18, sg18⟩, hq18⟩
    injection hv18 with ea _ ec
    subst ea ec
    have hn := HNum.out
    have hil := HIlt.out
    have hh8 := HSM8.out
    have hGbne : some w8.heap.size ≠ (Value.slice aI zI.length cI).ownBlock := fun e => by have := hil.1 _ e.symm; omega
    have hGfne : some (w8.heap.size + 1) ≠ (Value.slice aI zI.length cI).ownBlock := fun e => by have := hil.1 _ e.symm; omega
    have HGB18 := hid (Bx5.at' HGB17.out (hq18 _ HGB17.out.lt hGbne) b18.size)
    have HGF18 := hid (Bx2.at'' HGF17.out (hq18 _ HGF17.out.lt hGfne) b18.size)
    have HMk1' := hid (HMk1.out.move b18.size (fun q _ h2 => b18.block q (by have := HSM8.out; omega)))
    have HMk2' := hid (HMk2.out.move b18.size (fun q _ h2 => b18.block q h2))
    have HLo18 : Hid (Below w5b.heap.size w5b w18) := hid (HLo17.out.trans (b18.mono (by have := HSM8.out; omega)))
    have HSG := hid sg18
    have HHR := hid (heldReplicaO id (c := ic) (d := idd) (c' := ic') (d' := idd') HM.out.1 HDm.out HMk1'.out.at HMk2'.out.at)
    rw [HE2.out] at HHR
    obtain ⟨M, hM⟩ : ∃ M, E2 + zI.length = M := ⟨_, rfl⟩
    have HMM := hid hM
    rw [hM]
    have dE : decide ((E2 : Int) < 0) = false := by simp
    clear u0 u1 b18 sg18 hq18 HMF HMk1 HMk2 HGB17 HGF17 HOI17 HLo17 hM hn hil hh8
    have y0 := HGB18.out.c0
    have y1 := HGB18.out.c1
    have y2 := HGB18.out.c2
    have y3 := HGB18.out.c3
    have y4 := HGB18.out.c4
    go_wp2_with fail
    refine HHR.out.mono ?_
    rintro e w19 ⟨rfl, b19⟩
    have HGF19 := hid (HGF18.out.below b19 HGF18.out.lt)
    have HLo19 := hid (keepS HLo18.out b19)
    have HHF := hid (heldFrame9 KI' aI zI.length cI E2 w19 HEb.out (by have := HZL.out; omega) (HSG.out.below b19))
    rw [HMM.out] at HHF
    have dM : decide ((M : Int) < 0) = false := by simp
    have dM2 : ((M : Int) != (M : Int)) = false := by simp
    clear y0 y1 y2 y3 y4 b19 HHR HGB18 HGF18 HLo18
    have u0 := HGF19.out.c0
    have u1 := HGF19.out.c1
    go_wp2_with fail
    refine HHF.out.mono ?_
    rintro e w20 ⟨rfl, b20⟩
    have HLo20 := hid (keepS HLo19.out b20)
    have HKS20 := hid (HKS.out.below HLo20.out)
    have k0 := HKS20.out.box.c0
    have k1 := HKS20.out.box.c1
    have k2 := HKS20.out.box.c2
    have k3 := HKS20.out.box.c3
    have k4 := HKS20.out.box.c4
    clear u0 u1 b20 HHF HGF19 HLo19
    go_wp2_with fail
    refine (HT.out w20 HKS20.out.low).mono ?_
    rintro e w21 ⟨j8, i8, j9, i9, mid8, rfl, s8, s9, b21⟩
    have HLo21 := hid (keepS HLo20.out b21)
    have HI20 := hid (HIMF.out j8 i8 j9 i9 _ _ _ w21 s8 s9)
    clear s8 s9 b21 k0 k1 k2 k3 k4 HKS20 HLo20
    go_wp2_with fail
    refine HI20.out.mono ?_
    rintro e w22 ⟨ja, jc, jx, jd, ja', jc', jx', jd', m9, h9, K9, v9, z9, Y9, rfl, u1, u2, hZ9, ho9, b22⟩
    obtain ⟨rfl, rfl, rfl⟩ : K9 = KI' ∧ z9 = zI ∧ Y9 = YI := by rw [HZ.out] at hZ9; injection hZ9 with e1 e2; injection e2 with e2 e3; exact ⟨e1.symm, e2.symm, e3.symm⟩
    obtain ⟨a9, c9, rfl, _⟩ := ho9.any
    obtain ⟨w22b, hw22b⟩ : ∃ w22b, (w22.alloc (.cells #[.int .i64 id, .slice ja S.l.length jc, .slice jx S.n jd, .slice ja' D.l.length jc', .slice jx' D.n jd'] 38)).alloc (.cells #[.int .i64 K9, .slice a9 z9.length c9] 41) = w22b := ⟨_, rfl⟩
    have b22b : Below w22.heap.size w22 w22b := by rw [← hw22b]; exact below2 _ _ _
    have GB : Bx5 w22b w22.heap.size (.int .i64 id) (.slice ja S.l.length jc) (.slice jx S.n jd) (.slice ja' D.l.length jc') (.slice jx' D.n jd') := by rw [← hw22b]; exact (Bx5.new _ _ _ _ _ _ _).up _
    have GF : Bx2 w22b (w22.heap.size + 1) (.int .i64 K9) (.slice a9 z9.length c9) := by
      rw [← hw22b]
      have := Bx2.made (w22.alloc (.cells #[.int .i64 id, .slice ja S.l.length jc, .slice jx S.n jd, .slice ja' D.l.length jc', .slice jx' D.n jd'] 38)) (.int .i64 K9) (.slice a9 z9.length c9) 41
      simpa using this
    have HLo22 := hid (keepS HLo21.out (keepS b22 b22b))
    have HKS22 := hid (HKS.out.below HLo22.out)
    have HGF := hid GF
    have HO9 : Hid (Own w22b h9 (.slice a9 z9.length c9) z9) := hid (own_at5 ho9 fun q hq => b22b.block q (World.ownsRow.lt ho9 q hq).2)
    have HE22 := hid (eqReplicaC id ja jx ja' jx' sa sx sa' sx' jc jd jc' jd' sc sd sc' sd' S D w22b HM.out.1 HDm.out (u1.below b22b).at (u2.below b22b).at HKS22.out.s1 HKS22.out.s2)
    have y0 := GB.c0
    have y1 := GB.c1
    have y2 := GB.c2
    have y3 := GB.c3
    have y4 := GB.c4
    have z0 := HKS22.out.wb.c0
    have z1 := HKS22.out.wb.c1
    have z2 := HKS22.out.wb.c2
    have z3 := HKS22.out.wb.c3
    have z4 := HKS22.out.wb.c4
    clear u1 u2 ho9 hZ9 b22 b22b GB GF HI20 HLo21
    go_wp2_with fail
    try rw [hw22b]
    clear hw22b
    refine HE22.out.mono ?_
    rintro e w23 ⟨rfl, b23⟩
    have HLo23 := hid (keepS HLo22.out b23)
    have HKS23 := hid (HKS.out.below HLo23.out)
    have HGF23 := hid (HGF.out.below b23 HGF.out.lt)
    obtain ⟨BS23, oS23⟩ := HKS23.out.oS
    have HE23 := hid (eqFrameO K9 _ _ z9 _ _ w23 (by have := HZL.out; omega) (own_at5 HO9.out fun q hq => b23.block q (World.ownsRow.lt HO9.out q hq).2 : Own w23 h9 (.slice a9 z9.length c9) z9) oS23)
    clear y0 y1 y2 y3 y4 z0 z1 z2 z3 z4 b23 HE22 HKS22 HLo22 oS23
    have u0 := HGF23.out.c0
    have u1 := HGF23.out.c1
    have v0 := HKS23.out.wf.c0
    have v1 := HKS23.out.wf.c1
    go_wp2_with fail
    refine HE23.out.mono ?_
    rintro e w24 ⟨rfl, b24⟩
    have HZZ := hid (HKS23.out.below b24).low
    clear b24 HE23 HKS23 u0 u1 v0 v1
    go_wp2_with fail
    go_ret
    exact ⟨rfl, HZZ.out⟩

theorem own : ownKnob Tryz.prog.godebug = none := by kernel_rfl
theorem laidOut : laidOutB Tryz.prog = true := by kernel_rfl

set_option maxRecDepth 100000 in
theorem lifted (os : Os) (started : os.Started) (H : Type) (enc : TypeId × Value → H) :
    ReturnsInHanded {} Tryz.checked os 3 .any (Rows.fnExactFlushSpec.pre6 enc Tryz.prog Tryz.f3 Rows.fnExactFlushRow.domain false) (Rows.fnExactFlushSpec.post enc Tryz.prog Tryz.f3 false true false false) := by
  refine returnsInHanded_of_change (C := Tryz.checked) own started (by kernel_rfl) Tryz.func3
    (ChangeSpec.witness6 (enc := enc) (C := Tryz.checked) false ⟨#[], #[.agg #[.int .i64 0, .slice none 0 0, .slice none 0 0, .slice none 0 0, .slice none 0 0]], []⟩ 8 (by kernel_rfl) (by kernel_rfl) (by kernel_rfl) (by kernel_rfl)) ?_
  intro W base args ds gs before hval0 hW hcnd _
  have hval : ∀ (j : Nat) t v, Tryz.f3.params[j]? = some t → args[j]? = some v → Value.okWide Tryz.prog W .any base t v := hval0
  have hW' := hW
  obtain ⟨p, q, hA0, hV, rfl, hfz, hnd⟩ := hW
  have hA : DataW.TrodAll enc Tryz.prog W 0 (fun _ => true) true Tryz.f3.params.toList args.toList ds p := hA0
  rw [Tryz.params3] at hA hval
  obtain ⟨v0, vs0, d0, ds0, p0, q0, hargs, rfl, rfl, h0, r0⟩ := trodAll_cons hA
  obtain ⟨rfl, rfl, rfl⟩ := trodAll_nil r0
  obtain rfl : args = #[v0] := by cases args; simp_all
  obtain ⟨rfl, rfl⟩ := trodVars_none hV
  have k0 := h0
  have lt0 : ∀ x ∈ p0, x.block < W.heap.size := by obtain ⟨m, hm⟩ := k0; exact DataW.trod_lt m _ _ _ hm
  obtain ⟨id, a, c, x, e, S, a', c', x', e', S', rfl, _, hb, hb', hs, hs'⟩ := openReplica (hval 0 29 v0 rfl rfl) h0
  clear hA0 hval0
  refine (walk id a x a' x' c e c' e' S S' W hb hb' hs hs').mono fun e W' ⟨he, bel⟩ => ?_
  subst he
  exact ⟨_, rfl, _, _, _, [], _, [], hW', trodAll_mk1 (shut_bool Tryz.underlying4 _), (trodAll_cons_mk (Below.trod laidOut (by kernel_rfl) (of_decide_eq_true (by kernel_rfl)) k0 bel lt0) trodAll_mk0), rfl, bel.frame _, fun h => by cases h⟩

theorem over : Rows.fnExactFlushRow.holds Tryz.pinned (OpenSpec.ofChange Rows.fnExactFlushSpec) :=
  OpenClaim.holds_of_wide 3 Tryz.f3 rfl rfl rfl rfl rfl rfl rfl ⟨rfl, rfl, rfl, rfl, rfl⟩ rfl rfl rfl rfl rfl (by kernel_rfl) Tryz.func3 (by kernel_rfl)
    (of_decide_eq_true (by kernel_rfl)) (by unfold Func.isWrapper; first | (rw [if_pos (by decide +kernel)]; kernel_rfl) | (rw [if_neg (by decide +kernel)]; exact ⟨rfl, rfl⟩))
    (fun os started H enc _ => lifted os started H enc)
end Go.Proofs.YtdenbicnckkdfaaGreat.fnExactFlush

namespace Go.Proofs.YtdenbicnckkdfaaGreat
theorem flushHolds : Rows.FnExactFlushSaid := fnExactFlush.over
#print axioms flushHolds
end Go.Proofs.YtdenbicnckkdfaaGreat
