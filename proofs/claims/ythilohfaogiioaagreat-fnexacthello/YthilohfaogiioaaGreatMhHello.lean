import Derived.Test.YthilohfaogiioaaGreatMhRpd
namespace Go.Proofs.YthilohfaogiioaaGreat.fnExactHello
open Go.ChangeShapes Go.WideShapes Go.ChangeAt Go.RowKit
set_option linter.unusedVariables false
set_option linter.unusedSimpArgs false

structure KL (w wk : World) (id : Int) (a x a' x' : Option Addr) (c d c' d' : Nat) (S S' : Sx) (b6 lo mid hi g k g' k' : Nat) (zs : List Int) (vS vI : Value) (B4 B7 : Nat) (K : Int) (bS bI : Nat) : Prop where
  low : Below w.heap.size w wk
  box : Bx5 wk w.heap.size (.int .i64 id) (.slice a S.l.length c) (.slice x S.n d) (.slice a' S'.l.length c') (.slice x' S'.n d')
  xbox : Bx5 wk b6 (.int .i64 id) (.slice (some ⟨g, 0, none⟩) S.l.length S.l.length) (.slice (some ⟨k, 0, none⟩) S.n S.n) (.slice (some ⟨g', 0, none⟩) S'.l.length S'.l.length) (.slice (some ⟨k', 0, none⟩) S'.n S'.n)
  s1 : SNw wk lo mid g k S
  s2 : SNw wk mid hi g' k' S'
  oS : Own wk B4 vS zs
  oI : Own wk B7 vI zs
  fS : Bx2 wk bS (.int .i64 K) vS
  fI : Bx2 wk bI (.int .i64 K) vI
theorem KL.below {w wk wk' : World} {id : Int} {a x a' x' : Option Addr} {c d c' d' : Nat} {S S' : Sx} {b6 lo mid hi g k g' k' : Nat} {zs : List Int} {vS vI : Value} {B4 B7 : Nat} {K : Int} {bS bI : Nat} (h : KL w wk id a x a' x' c d c' d' S S' b6 lo mid hi g k g' k' zs vS vI B4 B7 K bS bI) (hb : Below wk.heap.size wk wk') : KL w wk' id a x a' x' c d c' d' S S' b6 lo mid hi g k g' k' zs vS vI B4 B7 K bS bI :=
  ⟨keepS h.low hb, h.box.below hb h.box.lt, h.xbox.below hb h.xbox.lt, h.s1.below hb, h.s2.below hb, own_at5 h.oS fun q hq => hb.block q (World.ownsRow.lt h.oS q hq).2, own_at5 h.oI fun q hq => hb.block q (World.ownsRow.lt h.oI q hq).2, h.fS.below hb h.fS.lt, h.fI.below hb h.fI.lt⟩

structure KM (w wk : World) (id : Int) (a x a' x' : Option Addr) (c d c' d' : Nat) (S S' : Sx) (zs : List Int) (vS vI : Value) (B4 B7 : Nat) (K : Int) (bS bI : Nat) : Prop where
  low : Below w.heap.size w wk
  box : Bx5 wk w.heap.size (.int .i64 id) (.slice a S.l.length c) (.slice x S.n d) (.slice a' S'.l.length c') (.slice x' S'.n d')
  oS : Own wk B4 vS zs
  oI : Own wk B7 vI zs
  fS : Bx2 wk bS (.int .i64 K) vS
  fI : Bx2 wk bI (.int .i64 K) vI
theorem Bx2.at'' {w w' : World} {b : Nat} {v0 v1 : Value} (h : Bx2 w b v0 v1) (e : w'.heap[b]? = w.heap[b]?) (hs : w.heap.size ≤ w'.heap.size) : Bx2 w' b v0 v1 :=
  ⟨(World.cell?_of_block (a := ⟨b, 0, none⟩) e).trans h.c0, (World.cell?_of_block (a := ⟨b, 1, none⟩) e).trans h.c1, fun i => (World.frozen?_of_block (a := ⟨b, i, none⟩) e).trans (h.f i), Nat.lt_of_lt_of_le h.lt hs⟩
theorem Bx5.at' {w w' : World} {b : Nat} {v0 v1 v2 v3 v4 : Value} (h : Bx5 w b v0 v1 v2 v3 v4) (e : w'.heap[b]? = w.heap[b]?) (hs : w.heap.size ≤ w'.heap.size) : Bx5 w' b v0 v1 v2 v3 v4 :=
  ⟨(World.cell?_of_block (a := ⟨b, 0, none⟩) e).trans h.c0, (World.cell?_of_block (a := ⟨b, 1, none⟩) e).trans h.c1, (World.cell?_of_block (a := ⟨b, 2, none⟩) e).trans h.c2, (World.cell?_of_block (a := ⟨b, 3, none⟩) e).trans h.c3, (World.cell?_of_block (a := ⟨b, 4, none⟩) e).trans h.c4, fun i => (World.frozen?_of_block (a := ⟨b, i, none⟩) e).trans (h.f i), Nat.lt_of_lt_of_le h.lt hs⟩
theorem KL.km {w wk wk' : World} {id : Int} {a x a' x' : Option Addr} {c d c' d' : Nat} {S S' : Sx} {b6 lo mid hi g k g' k' : Nat} {zs : List Int} {vS vI : Value} {B4 B7 : Nat} {K : Int} {bS bI : Nat} (h : KL w wk id a x a' x' c d c' d' S S' b6 lo mid hi g k g' k' zs vS vI B4 B7 K bS bI) (hb : Btw lo hi wk wk') (h1 : w.heap.size < lo) (h2 : ∀ g, vS.ownBlock = some g → g < lo) (h3 : hi ≤ B7) (h4 : bS < lo) (h5 : hi ≤ bI) : KM w wk' id a x a' x' c d c' d' S S' zs vS vI B4 B7 K bS bI :=
  ⟨h.low.trans ⟨hb.os, hb.tape, hb.output, hb.size, fun g hg => hb.block g (by have := h.box.lt; omega) (.inl (by omega))⟩, Bx5.at' h.box (hb.block _ h.box.lt (.inl h1)) hb.size, own_at5 h.oS fun g hg => hb.block g (World.ownsRow.lt h.oS g hg).2 (.inl (h2 g hg)), own_at5 h.oI fun g hg => hb.block g (World.ownsRow.lt h.oI g hg).2 (.inr (by have := (World.ownsRow.lt h.oI g hg).1; omega)), Bx2.at'' h.fS (hb.block _ h.fS.lt (.inl h4)) hb.size, Bx2.at'' h.fI (hb.block _ h.fI.lt (.inr h5)) hb.size⟩
theorem KM.below {w wk wk' : World} {id : Int} {a x a' x' : Option Addr} {c d c' d' : Nat} {S S' : Sx} {zs : List Int} {vS vI : Value} {B4 B7 : Nat} {K : Int} {bS bI : Nat} (h : KM w wk id a x a' x' c d c' d' S S' zs vS vI B4 B7 K bS bI) (hb : Below wk.heap.size wk wk') : KM w wk' id a x a' x' c d c' d' S S' zs vS vI B4 B7 K bS bI :=
  ⟨keepS h.low hb, h.box.below hb h.box.lt, own_at5 h.oS fun q hq => hb.block q (World.ownsRow.lt h.oS q hq).2, own_at5 h.oI fun q hq => hb.block q (World.ownsRow.lt h.oI q hq).2, h.fS.below hb h.fS.lt, h.fI.below hb h.fI.lt⟩

structure KN (w wk : World) (id : Int) (a x a' x' : Option Addr) (c d c' d' : Nat) (S S' : Sx) (zs : List Int) (vS vI : Value) (B4 : Nat) (K : Int) (bS bI : Nat) : Prop where
  low : Below w.heap.size w wk
  box : Bx5 wk w.heap.size (.int .i64 id) (.slice a S.l.length c) (.slice x S.n d) (.slice a' S'.l.length c') (.slice x' S'.n d')
  oS : Own wk B4 vS zs
  fS : Bx2 wk bS (.int .i64 K) vS
  fI : Bx2 wk bI (.int .i64 K) vI
theorem KN.below {w wk wk' : World} {id : Int} {a x a' x' : Option Addr} {c d c' d' : Nat} {S S' : Sx} {zs : List Int} {vS vI : Value} {B4 : Nat} {K : Int} {bS bI : Nat} (h : KN w wk id a x a' x' c d c' d' S S' zs vS vI B4 K bS bI) (hb : Below wk.heap.size wk wk') : KN w wk' id a x a' x' c d c' d' S S' zs vS vI B4 K bS bI :=
  ⟨keepS h.low hb, h.box.below hb h.box.lt, own_at5 h.oS fun q hq => hb.block q (World.ownsRow.lt h.oS q hq).2, h.fS.below hb h.fS.lt, h.fI.below hb h.fI.lt⟩
theorem KM.kn {w wk wk' : World} {id : Int} {a x a' x' : Option Addr} {c d c' d' : Nat} {S S' : Sx} {zs : List Int} {vS vI : Value} {B4 B7 : Nat} {K : Int} {bS bI : Nat} (h : KM w wk id a x a' x' c d c' d' S S' zs vS vI B4 B7 K bS bI) (hb : Below B7 wk wk') (hq : ∀ q, q < wk.heap.size → some q ≠ vI.ownBlock → wk'.heap[q]? = wk.heap[q]?) (h1 : w.heap.size < B7) (h2 : ∀ q, vS.ownBlock = some q → q < B7) (h3 : bS < B7) (h4 : some bI ≠ vI.ownBlock) : KN w wk' id a x a' x' c d c' d' S S' zs vS vI B4 K bS bI :=
  ⟨h.low.trans (hb.mono (Nat.le_of_lt h1)), Bx5.at' h.box (hb.block _ h1) hb.size, own_at5 h.oS fun q hq => hb.block q (h2 q hq), Bx2.at'' h.fS (hb.block _ h3) hb.size, Bx2.at'' h.fI (hq _ h.fI.lt h4) hb.size⟩

set_option maxRecDepth 100000 in
set_option maxHeartbeats 4000000 in
theorem walk (id : Int) (a x a' x' : Option Addr) (c d c' d' : Nat) (S S' : Sx) (w : World) (hb : S.Big) (hb' : S'.Big) (h : SAt w a x S) (h' : SAt w a' x' S') :
    Calls Tryz.prog 5 #[.agg #[.int .i64 id, .slice a S.l.length c, .slice x S.n d, .slice a' S'.l.length c', .slice x' S'.n d']] w fun e w' => e = .returned (.bool true) ∧ Below w.heap.size w w' := by
  obtain ⟨W, hW⟩ : ∃ W, w.alloc (.cells #[.int .i64 id, .slice a S.l.length c, .slice x S.n d, .slice a' S'.l.length c', .slice x' S'.n d'] 29) = W := ⟨_, rfl⟩
  have b0 : Below w.heap.size w W := by rw [← hW]; exact (Below.refl _ _).alloc (Nat.le_refl _) _
  have B0 : Bx5 W w.heap.size (.int .i64 id) (.slice a S.l.length c) (.slice x S.n d) (.slice a' S'.l.length c') (.slice x' S'.n d') := by rw [← hW]; exact Bx5.new _ _ _ _ _ _ _
  have HSZ := hid (szReplicaC id a x a' x' c d c' d' S S' W hb hb' (h.below b0) (h'.below b0))
  have HL := hid h
  have HL' := hid h'
  have HI := hid (And.intro hb.i1 hb'.i1)
  have HB0 := hid b0
  have HX := hid B0
  have k0 := B0.c0
  have k1 := B0.c1
  have k2 := B0.c2
  have k3 := B0.c3
  have k4 := B0.c4
  clear h h' b0 B0
  go_enter Tryz.func5, Tryz.ntmps5
  go_wp2_with fail
  try rw [hW]
  clear hW
  refine HSZ.out.mono ?_
  rintro e w1 ⟨⟨k', rfl, hsm⟩, b1⟩
  have HX1 := hid (HX.out.below b1 HX.out.lt)
  have HB1 := hid (keepS HB0.out b1)
  have HSM := hid hsm
  clear hsm b1 HSZ HB0 k0 k1 k2 k3 k4 HX
  by_cases hneg : k' < 0
  · have d0 : decide (k' < 0) = true := by simpa using hneg
    clear HSM
    go_wp2_with fail
    go_ret
    exact ⟨rfl, HB1.out⟩
  · have d0 : decide (k' < 0) = false := by simpa using hneg
    obtain ⟨hm, hm'⟩ := HSM.out (by omega)
    have HM := hid (And.intro hm hm')
    have HT : Hid (∀ w1, Below w.heap.size w w1 → Calls Tryz.prog 8 #[.agg #[.int .i64 id, .slice a S.l.length c, .slice x S.n d, .slice a' S'.l.length c', .slice x' S'.n d']] w1 fun e w' => ∃ g k g' k' mid, e = .returned (.agg #[.int .i64 id, .slice (some ⟨g, 0, none⟩) S.l.length S.l.length, .slice (some ⟨k, 0, none⟩) S.n S.n, .slice (some ⟨g', 0, none⟩) S'.l.length S'.l.length, .slice (some ⟨k', 0, none⟩) S'.n S'.n]) ∧ SNw w' w1.heap.size mid g k S ∧ SNw w' mid w'.heap.size g' k' S' ∧ Below w1.heap.size w1 w') := hid (fun w1 hb1 => toReplicaC id a x a' x' c d c' d' S S' w1 hm hm' (HL.out.below hb1) (HL'.out.below hb1))
    have k0 := HX1.out.c0
    have k1 := HX1.out.c1
    have k2 := HX1.out.c2
    have k3 := HX1.out.c3
    have k4 := HX1.out.c4
    clear HSM hm hm'
    go_wp2_with fail
    refine (HT.out w1 HB1.out).mono ?_
    rintro e w3 ⟨g2, h2, g3, h3, mid, rfl, s2, s3, b2⟩
    have HX2 := hid (HX1.out.below b2 HX1.out.lt)
    have HB2 := hid (keepS HB1.out b2)
    have HSP := hid (specHello id (some ⟨g2, 0, none⟩) (some ⟨h2, 0, none⟩) (some ⟨g3, 0, none⟩) (some ⟨h3, 0, none⟩) S.l.length S.n S'.l.length S'.n S S' w3 (Nat.le_refl _) hb.l1 (Nat.le_refl _) hb'.l1 HM.out.1 HM.out.2 s2.cap.cap s2.rn s3.cap.cap s3.rn)
    clear b2 s2 s3 HB1 HX1 k0 k1 k2 k3 k4
    go_wp2_with fail
    refine HSP.out.mono ?_
    rintro e w5 ⟨K, vS, zs, Y, rfl, hZ, hoS, b5⟩
    have HZL : Hid (zs.length ≤ 4000) := hid (by have := heZ_len id S S'; rw [hZ] at this; exact this)
    have HZ := hid hZ
    obtain ⟨aS, cS, rfl, _⟩ := hoS.any
    obtain ⟨w5b, hw5b⟩ : ∃ w5b, w5.alloc (.cells #[.int .i64 K, .slice aS zs.length cS] 45) = w5b := ⟨_, rfl⟩
    have b5b : Below w5.heap.size w5 w5b := by rw [← hw5b]; exact (Below.refl _ _).alloc (Nat.le_refl _) _
    have FS5 : Bx2 w5b w5.heap.size (.int .i64 K) (.slice aS zs.length cS) := by rw [← hw5b]; exact Bx2.made _ _ _ _
    have HFS := hid FS5
    have HB5 := hid (keepS HB2.out (keepS b5 b5b))
    have HX5 := hid (HX2.out.below (keepS b5 b5b) HX2.out.lt)
    have HOS5 : Hid (Own w5b w3.heap.size (.slice aS zs.length cS) zs) := hid (own_at5 hoS fun q hq => b5b.block q (World.ownsRow.lt hoS q hq).2)
    have HSw5 : Hid (∀ g, (Value.slice aS zs.length cS).ownBlock = some g → g < w5.heap.size) := hid (fun g hg => (World.ownsRow.lt hoS g hg).2)
    have k0 := HX5.out.c0
    have k1 := HX5.out.c1
    have k2 := HX5.out.c2
    have k3 := HX5.out.c3
    have k4 := HX5.out.c4
    clear b5 b5b FS5 HSP HX2 hoS hZ
    go_wp2_with fail
    try rw [hw5b]
    clear hw5b
    refine (HT.out w5b HB5.out).mono ?_
    rintro e w6 ⟨g4, h4, g5, h5, mid4, rfl, s4, s5, b4⟩
    obtain ⟨W5, hW5⟩ : ∃ W5, w6.alloc (.cells #[.int .i64 id, .slice (some ⟨g4, 0, none⟩) S.l.length S.l.length, .slice (some ⟨h4, 0, none⟩) S.n S.n, .slice (some ⟨g5, 0, none⟩) S'.l.length S'.l.length, .slice (some ⟨h5, 0, none⟩) S'.n S'.n] 39) = W5 := ⟨_, rfl⟩
    have b5 : Below w6.heap.size w6 W5 := by rw [← hW5]; exact (Below.refl _ _).alloc (Nat.le_refl _) _
    have z5 : W5.heap.size = w6.heap.size + 1 := by rw [← hW5]; simp
    have X5 : Bx5 W5 w6.heap.size (.int .i64 id) (.slice (some ⟨g4, 0, none⟩) S.l.length S.l.length) (.slice (some ⟨h4, 0, none⟩) S.n S.n) (.slice (some ⟨g5, 0, none⟩) S'.l.length S'.l.length) (.slice (some ⟨h5, 0, none⟩) S'.n S'.n) := by rw [← hW5]; exact Bx5.new _ _ _ _ _ _ _
    have HN4 := hid (s4.below b5)
    have HN5 := hid (s5.below b5)
    have HBB5 := hid (keepS HB5.out (keepS b4 b5))
    have HXX5 := hid (HX5.out.below (keepS b4 b5) HX5.out.lt)
    have HOS6 : Hid (Own W5 w3.heap.size (.slice aS zs.length cS) zs) := hid (own_at5 HOS5.out fun q hq => (keepS b4 b5).block q (World.ownsRow.lt HOS5.out q hq).2)
    have HNum : Hid ((w.heap.size < w5b.heap.size ∧ w5b.heap.size ≤ w6.heap.size ∧ W5.heap.size = w6.heap.size + 1) ∧ w5.heap.size < w5b.heap.size) := hid ⟨⟨HX5.out.lt, b4.size, z5⟩, HFS.out.lt⟩
    have HSlt : Hid (∀ g, (Value.slice aS zs.length cS).ownBlock = some g → g < w5b.heap.size) := hid (fun g hg => (World.ownsRow.lt HOS5.out g hg).2)
    have HFS6 := hid (HFS.out.below (keepS b4 b5) HFS.out.lt)
    have HXI := hid X5
    have x0 := X5.c0
    have x1 := X5.c1
    have x2 := X5.c2
    have x3 := X5.c3
    have x4 := X5.c4
    have HIM := hid (implHello id _ _ _ _ S.l.length S.n S'.l.length S'.n S S' W5 HI.out.1 HI.out.2 HM.out.1 HM.out.2 HN4.out.at HN5.out.at)
    clear b4 s4 s5 b5 X5 k0 k1 k2 k3 k4 HB5 HX5 z5 HOS5 HFS HSw5
    go_wp2_with fail
    try rw [hW5]
    clear hW5
    refine HIM.out.mono ?_
    rintro e w8 ⟨KI, vI, zI, YI, rfl, hZI, hoI, b8⟩
    obtain ⟨rfl, rfl, rfl⟩ : KI = K ∧ zI = zs ∧ YI = Y := by rw [HZ.out] at hZI; injection hZI with e1 e2; injection e2 with e2 e3; exact ⟨e1.symm, e2.symm, e3.symm⟩
    obtain ⟨aI, cI, rfl, _⟩ := hoI.any
    obtain ⟨w8b, hw8b⟩ : ∃ w8b, w8.alloc (.cells #[.int .i64 KI, .slice aI zI.length cI] 45) = w8b := ⟨_, rfl⟩
    have b8b : Below w8.heap.size w8 w8b := by rw [← hw8b]; exact (Below.refl _ _).alloc (Nat.le_refl _) _
    have FI8 : Bx2 w8b w8.heap.size (.int .i64 KI) (.slice aI zI.length cI) := by rw [← hw8b]; exact Bx2.made _ _ _ _
    have bb := keepS b8 b8b
    have HK : Hid (KL w w8b id a x a' x' c d c' d' S S' w6.heap.size w5b.heap.size mid4 w6.heap.size g4 h4 g5 h5 zI (.slice aS zI.length cS) (.slice aI zI.length cI) w3.heap.size W5.heap.size KI w5.heap.size w8.heap.size) := hid
      ⟨keepS HBB5.out bb, HXX5.out.below bb HXX5.out.lt, HXI.out.below bb HXI.out.lt, HN4.out.below bb, HN5.out.below bb, own_at5 HOS6.out fun q hq => bb.block q (World.ownsRow.lt HOS6.out q hq).2, own_at5 hoI fun q hq => b8b.block q (World.ownsRow.lt hoI q hq).2, HFS6.out.below bb HFS6.out.lt, FI8⟩
    have HIlt : Hid (some w8.heap.size ≠ (Value.slice aI zI.length cI).ownBlock ∧ W5.heap.size ≤ w8.heap.size) := hid ⟨fun e => by have := (World.ownsRow.lt hoI _ e.symm).2; omega, b8.size⟩
    have y0 := HK.out.fS.c0
    have y1 := HK.out.fS.c1
    have y2 := HK.out.fI.c0
    have y3 := HK.out.fI.c1
    have dK : (YI != YI) = false := by simp
    have dK2 : (YI == YI) = true := by simp
    have HE1 := hid (eqFrameO KI _ _ zI _ _ w8b (by have := HZL.out; omega) HK.out.oI HK.out.oS)
    clear b8 b8b bb FI8 hoI hZI x0 x1 x2 x3 x4 HBB5 HXX5 HXI HN4 HN5 HOS6 HB2 HIM HFS6
    go_wp2_with fail
    try rw [hw8b]
    clear hw8b y0 y1 y2 y3
    refine HE1.out.mono ?_
    rintro e w9 ⟨rfl, b9⟩
    have HK9 := hid (HK.out.below b9)
    clear b9 HE1 HK
    go_wp2_with fail
    have HCS : Hid (∀ w', Below w9.heap.size w9 w' → (Below w9.heap.size w9 w' ∧ (w'.cell? ⟨w6.heap.size, 0, none⟩ = some (.int .i64 id) ∧ w'.cell? ⟨w6.heap.size, 1, none⟩ = some (.slice (some ⟨g4, 0, none⟩) S.l.length S.l.length) ∧ w'.cell? ⟨w6.heap.size, 2, none⟩ = some (.slice (some ⟨h4, 0, none⟩) S.n S.n) ∧ w'.cell? ⟨w6.heap.size, 3, none⟩ = some (.slice (some ⟨g5, 0, none⟩) S'.l.length S'.l.length) ∧ w'.cell? ⟨w6.heap.size, 4, none⟩ = some (.slice (some ⟨h5, 0, none⟩) S'.n S'.n)) ∧ w'.cell? ⟨w.heap.size, 0, none⟩ = some (.int .i64 id) ∧ w'.cell? ⟨w.heap.size, 1, none⟩ = some (.slice a S.l.length c) ∧ w'.cell? ⟨w.heap.size, 2, none⟩ = some (.slice x S.n d) ∧ w'.cell? ⟨w.heap.size, 3, none⟩ = some (.slice a' S'.l.length c') ∧ w'.cell? ⟨w.heap.size, 4, none⟩ = some (.slice x' S'.n d'))) := hid (fun w' hB => by
      have K := HK9.out.below hB
      exact ⟨hB, ⟨K.xbox.c0, K.xbox.c1, K.xbox.c2, K.xbox.c3, K.xbox.c4⟩, K.box.c0, K.box.c1, K.box.c2, K.box.c3, K.box.c4⟩)
    refine wp_region_held_drew (S := fun w' => Below w9.heap.size w9 w' ∧ (w'.cell? ⟨w6.heap.size, 0, none⟩ = some (.int .i64 id) ∧ w'.cell? ⟨w6.heap.size, 1, none⟩ = some (.slice (some ⟨g4, 0, none⟩) S.l.length S.l.length) ∧ w'.cell? ⟨w6.heap.size, 2, none⟩ = some (.slice (some ⟨h4, 0, none⟩) S.n S.n) ∧ w'.cell? ⟨w6.heap.size, 3, none⟩ = some (.slice (some ⟨g5, 0, none⟩) S'.l.length S'.l.length) ∧ w'.cell? ⟨w6.heap.size, 4, none⟩ = some (.slice (some ⟨h5, 0, none⟩) S'.n S'.n)) ∧ w'.cell? ⟨w.heap.size, 0, none⟩ = some (.int .i64 id) ∧ w'.cell? ⟨w.heap.size, 1, none⟩ = some (.slice a S.l.length c) ∧ w'.cell? ⟨w.heap.size, 2, none⟩ = some (.slice x S.n d) ∧ w'.cell? ⟨w.heap.size, 3, none⟩ = some (.slice a' S'.l.length c') ∧ w'.cell? ⟨w.heap.size, 4, none⟩ = some (.slice x' S'.n d')) (by kernel_rfl) (HCS.out _ (Below.refl _ _).drew) (fun hHeld => ?_)
    refine take1 (i := 0) (d := some 41) (v := ?_) (by kernel_rfl) (by kernel_rfl) (by kernel_rfl) (by kernel_rfl) (fun _ _ _ h => h) ?_ hHeld ?_
    rotate_left
    · (intro o ho; simp only [List.getElem?_toArray, List.getElem?_cons_succ, List.getElem?_cons_zero, Option.some.injEq] at ho; subst ho; refine Or.inl ⟨by rfl, ?_⟩; intro w hSw; (try dsimp only at hSw); go_simp; try with_reducible rfl)
    try simp only [Act.put, List.setIfInBounds_toArray, List.set_cons_zero, List.set_cons_succ]
    refine take1 (i := 1) (d := some 42) (v := ?_) (by kernel_rfl) (by kernel_rfl) (by kernel_rfl) (by kernel_rfl) (fun _ _ _ h => h) ?_ hHeld ?_
    rotate_left
    · (intro o ho; simp only [List.getElem?_toArray, List.getElem?_cons_succ, List.getElem?_cons_zero, Option.some.injEq] at ho; subst ho; refine Or.inl ⟨by rfl, ?_⟩; intro w hSw; (try dsimp only at hSw); go_simp; try with_reducible rfl)
    try simp only [Act.put, List.setIfInBounds_toArray, List.set_cons_zero, List.set_cons_succ]
    refine call1 (i := 2) (d := some 43) (by kernel_rfl) (by kernel_rfl) ?_
    intro o ho hod K hK; simp only [List.getElem?_toArray, List.getElem?_cons_succ, List.getElem?_cons_zero, Option.some.injEq] at ho; subst ho
    go_simp
    refine (HT.out _ (HK9.out.below hHeld.1).low).mono ?_
    rintro e w10 ⟨g7, h7, g8, h8, mid7, rfl, s7, s8, b10⟩
    have hB9 := keepS hHeld.1 b10
    refine hK.out _ _ (HCS.out _ hB9) (fun hHeld => ?_)
    clear hK K
    try simp only [Act.put, List.setIfInBounds_toArray, List.set_cons_zero, List.set_cons_succ]
    refine call1 (i := 3) (d := some 44) (by kernel_rfl) (by kernel_rfl) ?_
    intro o ho hod K hK; simp only [List.getElem?_toArray, List.getElem?_cons_succ, List.getElem?_cons_zero, Option.some.injEq] at ho; subst ho
    go_simp
    refine (eqReplicaC id _ _ _ _ _ _ _ _ S.l.length S.n S'.l.length S'.n S.l.length S.n S'.l.length S'.n S S' _ HM.out.1 HM.out.2 (HK9.out.below hB9).s1.at (HK9.out.below hB9).s2.at s7.at s8.at).mono ?_
    rintro e w11 ⟨rfl, b11⟩
    have hB10 := keepS hB9 b11
    refine hK.out _ _ (HCS.out _ hB10) (fun hHeld => ?_)
    clear hK K
    try simp only [Act.put, List.setIfInBounds_toArray, List.set_cons_zero, List.set_cons_succ]
    refine take1 (i := 4) (d := some 45) (v := ?_) (by kernel_rfl) (by kernel_rfl) (by kernel_rfl) (by kernel_rfl) (fun _ _ _ h => h) ?_ hHeld ?_
    rotate_left
    · (intro o ho; simp only [List.getElem?_toArray, List.getElem?_cons_succ, List.getElem?_cons_zero, Option.some.injEq] at ho; subst ho; refine Or.inl ⟨by rfl, ?_⟩; intro w hSw; (try dsimp only at hSw); go_simp; try with_reducible rfl)
    try simp only [Act.put, List.setIfInBounds_toArray, List.set_cons_zero, List.set_cons_succ]
    refine wpAnyH_done (by kernel_rfl) ?_ _
    have HK11 := hid (HK9.out.below hB10)
    have x0 := HK11.out.xbox.c0
    have x1 := HK11.out.xbox.c1
    have x2 := HK11.out.xbox.c2
    have x3 := HK11.out.xbox.c3
    have x4 := HK11.out.xbox.c4
    have HMK := hid (markReplicaC id g4 h4 g5 h5 w5b.heap.size mid4 w6.heap.size S S' w11 HM.out.1 HM.out.2 HK11.out.s1 HK11.out.s2)
    clear hHeld hB9 hB10 b10 b11 s7 s8 HCS HK9
    go_wp2_with fail
    refine HMK.out.mono ?_
    rintro e w14 ⟨⟨m1, rfl⟩, bt14⟩
    have HZ8 : Hid (W5.heap.size ≤ w14.heap.size) := hid (by have h1 := bt14.size; have h2 := HK11.out.xbox.lt; have := HNum.out; omega)
    have HKM14 := hid (HK11.out.km bt14 HNum.out.1.1 HSlt.out (by have := HNum.out; omega) HNum.out.2 (by have := HNum.out; have := HIlt.out.2; omega))
    have dm : decide ((m1 : Int) < 0) = false := by simp
    have y0 := HKM14.out.fS.c0
    have y1 := HKM14.out.fS.c1
    have y2 := HKM14.out.fI.c0
    have y3 := HKM14.out.fI.c1
    have HE16 := hid (eqFrameO KI _ _ zI _ _ w14 (by have := HZL.out; omega) HKM14.out.oI HKM14.out.oS)
    clear bt14 x0 x1 x2 x3 x4 HK11 HMK
    go_wp2_with fail
    refine HE16.out.mono ?_
    rintro e w16 ⟨rfl, b16⟩
    have HKM16 := hid (HKM14.out.below b16)
    have HMH := hid (markFrameO KI _ zI _ w16 (by have := HZL.out; omega) (by have := HNum.out; have := HZ8.out; have := b16.size; omega) HKM16.out.oI)
    clear b16 HE16 HKM14 y0 y1 y2 y3
    have y2 := HKM16.out.fI.c0
    have y3 := HKM16.out.fI.c1
    go_wp2_with fail
    refine HMH.out.mono ?_
    rintro e w17 ⟨rfl, b17, ⟨a17, c17, hv17, s17⟩, hq17⟩
    injection hv17 with ea _ ec
    subst ea ec
    have HKN17 : Hid (KN w w17 id a x a' x' c d c' d' S S' zI (.slice aS zI.length cS) (.slice aI zI.length cI) w3.heap.size KI w5.heap.size w8.heap.size) := hid (HKM16.out.kn b17 hq17 (by have := HNum.out; omega) (fun q hq => by have := HSlt.out q hq; have := HNum.out; omega) (by have := HNum.out; omega) HIlt.out.1)
    have HHD := hid (heldFrameO KI aI zI.length cI w17 (by have := HZL.out; omega) s17)
    obtain ⟨M, hM⟩ : ∃ M, 1 + zI.length = M := ⟨_, rfl⟩
    rw [hM] at HHD ⊢
    have dM : decide ((M : Int) < 0) = false := by simp
    have dM2 : ((M : Int) != (M : Int)) = false := by simp
    clear b17 s17 hq17 HMH HKM16 hM y2 y3
    have y2 := HKN17.out.fI.c0
    have y3 := HKN17.out.fI.c1
    go_wp2_with fail
    refine HHD.out.mono ?_
    rintro e w18 ⟨rfl, b18⟩
    have HKN18 := hid (HKN17.out.below b18)
    have k0 := HKN18.out.box.c0
    have k1 := HKN18.out.box.c1
    have k2 := HKN18.out.box.c2
    have k3 := HKN18.out.box.c3
    have k4 := HKN18.out.box.c4
    clear b18 HHD HKN17 y2 y3
    go_wp2_with fail
    refine (HT.out w18 HKN18.out.low).mono ?_
    rintro e w19 ⟨g8, h8, g9, h9, mid8, rfl, s8, s9, b19⟩
    have HKN19 := hid (HKN18.out.below b19)
    have HI20 := hid (implHello id _ _ _ _ S.l.length S.n S'.l.length S'.n S S' w19 HI.out.1 HI.out.2 HM.out.1 HM.out.2 s8.at s9.at)
    clear s8 s9 b19 k0 k1 k2 k3 k4 HKN18
    go_wp2_with fail
    refine HI20.out.mono ?_
    rintro e w21 ⟨K8, v8, z8, Y8, rfl, hZ8, ho8, b21⟩
    obtain ⟨rfl, rfl, rfl⟩ : K8 = KI ∧ z8 = zI ∧ Y8 = YI := by rw [HZ.out] at hZ8; injection hZ8 with e1 e2; injection e2 with e2 e3; exact ⟨e1.symm, e2.symm, e3.symm⟩
    obtain ⟨a8, c8, rfl, _⟩ := ho8.any
    obtain ⟨w21b, hw21b⟩ : ∃ w21b, w21.alloc (.cells #[.int .i64 K8, .slice a8 z8.length c8] 45) = w21b := ⟨_, rfl⟩
    have b21b : Below w21.heap.size w21 w21b := by rw [← hw21b]; exact (Below.refl _ _).alloc (Nat.le_refl _) _
    have FH : Bx2 w21b w21.heap.size (.int .i64 K8) (.slice a8 z8.length c8) := by rw [← hw21b]; exact Bx2.made _ _ _ _
    have HKN21 := hid (HKN19.out.below (keepS b21 b21b))
    have HE22 := hid (eqFrameO K8 _ _ z8 _ _ w21b (by have := HZL.out; omega) (own_at5 ho8 fun q hq => b21b.block q (World.ownsRow.lt ho8 q hq).2 : Own w21b _ (.slice a8 z8.length c8) z8) HKN21.out.oS)
    have y0 := HKN21.out.fS.c0
    have y1 := HKN21.out.fS.c1
    have y2 := FH.c0
    have y3 := FH.c1
    clear ho8 hZ8 b21 b21b FH HI20 HKN19
    go_wp2_with fail
    try rw [hw21b]
    clear hw21b y0 y1 y2 y3
    refine HE22.out.mono ?_
    rintro e w22 ⟨rfl, b22⟩
    have HZZ := hid (HKN21.out.below b22).low
    clear b22 HE22 HKN21
    go_wp2_with fail
    go_ret
    exact ⟨rfl, HZZ.out⟩

theorem own : ownKnob Tryz.prog.godebug = none := by kernel_rfl
theorem laidOut : laidOutB Tryz.prog = true := by kernel_rfl

set_option maxRecDepth 100000 in
theorem lifted (os : Os) (started : os.Started) (H : Type) (enc : TypeId × Value → H) :
    ReturnsInHanded {} Tryz.checked os 5 .any (Rows.fnExactHelloSpec.pre6 enc Tryz.prog Tryz.f5 Rows.fnExactHelloRow.domain false) (Rows.fnExactHelloSpec.post enc Tryz.prog Tryz.f5 false true false false) := by
  refine returnsInHanded_of_change (C := Tryz.checked) own started (by kernel_rfl) Tryz.func5
    (ChangeSpec.witness6 (enc := enc) (C := Tryz.checked) false ⟨#[], #[.agg #[.int .i64 0, .slice none 0 0, .slice none 0 0, .slice none 0 0, .slice none 0 0]], []⟩ 8 (by kernel_rfl) (by kernel_rfl) (by kernel_rfl) (by kernel_rfl)) ?_
  intro W base args ds gs before hval0 hW hcnd _
  have hval : ∀ (j : Nat) t v, Tryz.f5.params[j]? = some t → args[j]? = some v → Value.okWide Tryz.prog W .any base t v := hval0
  have hW' := hW
  obtain ⟨p, q, hA0, hV, rfl, hfz, hnd⟩ := hW
  have hA : DataW.TrodAll enc Tryz.prog W 0 (fun _ => true) true Tryz.f5.params.toList args.toList ds p := hA0
  rw [Tryz.params5] at hA hval
  obtain ⟨v0, vs0, d0, ds0, p0, q0, hargs, rfl, rfl, h0, r0⟩ := trodAll_cons hA
  obtain ⟨rfl, rfl, rfl⟩ := trodAll_nil r0
  obtain rfl : args = #[v0] := by cases args; simp_all
  obtain ⟨rfl, rfl⟩ := trodVars_none hV
  have k0 := h0
  have lt0 : ∀ x ∈ p0, x.block < W.heap.size := by obtain ⟨m, hm⟩ := k0; exact DataW.trod_lt m _ _ _ hm
  obtain ⟨id, a, c, x, e, S, a', c', x', e', S', rfl, _, hb, hb', hs, hs'⟩ := openReplica (hval 0 29 v0 rfl rfl) h0
  clear hA0 hval0
  refine (walk id a x a' x' c e c' e' S S' W hb hb' hs hs').mono fun e W' ⟨he, bel⟩ => ?_
  subst he
  exact ⟨_, rfl, _, _, _, [], _, [], hW', trodAll_mk1 (shut_bool Tryz.underlying4 _), (trodAll_cons_mk (Below.trod laidOut (by kernel_rfl) (of_decide_eq_true (by kernel_rfl)) k0 bel lt0) trodAll_mk0), rfl, bel.frame _, fun h => by cases h⟩

theorem over : Rows.fnExactHelloRow.holds Tryz.pinned (OpenSpec.ofChange Rows.fnExactHelloSpec) :=
  OpenClaim.holds_of_wide 5 Tryz.f5 rfl rfl rfl rfl rfl rfl rfl ⟨rfl, rfl, rfl, rfl, rfl⟩ rfl rfl rfl rfl rfl (by kernel_rfl) Tryz.func5 (by kernel_rfl)
    (of_decide_eq_true (by kernel_rfl)) (by unfold Func.isWrapper; first | (rw [if_pos (by decide +kernel)]; kernel_rfl) | (rw [if_neg (by decide +kernel)]; exact ⟨rfl, rfl⟩))
    (fun os started H enc _ => lifted os started H enc)
end Go.Proofs.YthilohfaogiioaaGreat.fnExactHello

namespace Go.Proofs.YthilohfaogiioaaGreat
theorem helloHolds : Rows.FnExactHelloSaid := fnExactHello.over
#print axioms helloHolds
end Go.Proofs.YthilohfaogiioaaGreat
