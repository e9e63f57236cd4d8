import Derived.Test.YtkhicohhahaahaaRre
import Derived.Test.YtkhicohhahaahaaRrf
namespace Go.Proofs.Ytkhicohhahaahaa.fnExactReadReg
open Go.ChangeShapes Go.WideShapes Go.ChangeAt Go.RowKit
set_option linter.unusedVariables false
set_option linter.unusedSimpArgs false

set_option maxRecDepth 100000 in
theorem openPath {H : Type} {enc : TypeId × Value → H} {W : World} {r : Reach} {b0 base : Nat} {spare : Nat → Bool} {held : Bool} {v : Value} {d : DataW H} {q : List MemPlace}
    (hval : Value.okWide Try.prog W r b0 28 v) (h : DataW.Trod enc Try.prog W base spare held 28 v d q) :
    ∃ a p c, v = .slice a p.length c ∧ SSeg W a p ∧ PBig p := by
  obtain ⟨a0, len0, cap0, rfl⟩ := okWide_slice Try.underlying28 hval
  obtain ⟨fuel, hf⟩ := h
  obtain ⟨a, p, c, hcs, h1, h2⟩ := openStrs hf
  simp [Value.cells] at hcs
  obtain ⟨rfl, rfl, rfl⟩ := hcs
  exact ⟨_, p, _, rfl, h1, h2⟩

theorem own_at {w w' : World} {B e size n : Nat} {v : Value} {xs : List Value} (h : w.ownsRow B e size v n xs) (hk : ∀ g, v.ownBlock = some g → w'.heap[g]? = w.heap[g]?) : w'.ownsRow B e size v n xs := by
  obtain ⟨q1, q2⟩ := h
  refine ⟨q1, ?_⟩
  rcases q2 with q2 | ⟨g, cap, cur, e, hbg, hb, r⟩
  · exact .inl q2
  · subst e; exact .inr ⟨g, cap, cur, rfl, hbg, (hk g rfl).trans hb, r⟩
theorem own_low {w w' : World} {B e size n : Nat} {v : Value} {xs : List Value} (h : w.ownsRow B e size v n xs) (hb : Below w.heap.size w w') : w'.ownsRow B e size v n xs := own_at h fun g hg => hb.block g (h.lt g hg).2

structure KL (w wk : World) (vo vx : Value × Value) (b6 lo hi g4 h4 bx : Nat) (l : List Lf) (n : Nat) (R F T : Nat → Int) (p : List ByteArray) (ts : List ByteArray) (vS vI : Value) (B4 B7 : Nat) : Prop where
  low : Below w.heap.size w wk
  box : Bx2 wk w.heap.size vo.1 vo.2
  xbox : Bx2 wk b6 vx.1 vx.2
  lf : LSeg wk (some ⟨g4, 0, none⟩) l
  rn : RSeg wk (some ⟨h4, 0, none⟩) n R F T
  st : SSeg wk (some ⟨bx, 0, none⟩) p
  hiLe : hi ≤ wk.heap.size
  lm : LMk wk lo hi g4 l
  ro : ∃ ys, wk.ownsRow lo 101 3 (.slice (some ⟨h4, 0, none⟩) n n) n ys
  pm : PMk wk bx p.length
  oS : wk.ownsRow B4 9 1 vS ts.length (sRow ts)
  oI : wk.ownsRow B7 9 1 vI ts.length (sRow ts)
theorem PMk.low {w w' : World} {g n : Nat} (h : PMk w g n) (hb : Below w.heap.size w w') : PMk w' g n := by
  obtain ⟨cur, h1, h2⟩ := h
  exact ⟨cur, (hb.block g (Array.getElem?_eq_some_iff.1 h1).1).trans h1, h2⟩
theorem KL.below {w wk wk' : World} {vo vx : Value × Value} {b6 lo hi g4 h4 bx : Nat} {l : List Lf} {n : Nat} {R F T : Nat → Int} {p : List ByteArray} {ts : List ByteArray} {vS vI : Value} {B4 B7 : Nat} (h : KL w wk vo vx b6 lo hi g4 h4 bx l n R F T p ts vS vI B4 B7) (hb : Below wk.heap.size wk wk') : KL w wk' vo vx b6 lo hi g4 h4 bx l n R F T p ts vS vI B4 B7 :=
  ⟨keepS h.low hb, h.box.below hb h.box.lt, h.xbox.below hb h.xbox.lt, h.lf.below hb, h.rn.below hb, h.st.below hb, Nat.le_trans h.hiLe hb.size, h.lm.same (fun g _ h2 => hb.block g (Nat.lt_of_lt_of_le h2 h.hiLe)), by obtain ⟨ys, ho⟩ := h.ro; exact ⟨ys, own_low ho hb⟩, PMk.low h.pm hb, own_low h.oS hb, own_low h.oI hb⟩

structure KM (w wk : World) (vo : Value × Value) (ts : List ByteArray) (vS vI : Value) (B4 B7 : Nat) : Prop where
  low : Below w.heap.size w wk
  box : Bx2 wk w.heap.size vo.1 vo.2
  oS : wk.ownsRow B4 9 1 vS ts.length (sRow ts)
  oI : wk.ownsRow B7 9 1 vI ts.length (sRow ts)
theorem Bx2.at' {w w' : World} {b : Nat} {v0 v1 : Value} (h : Bx2 w b v0 v1) (e : w'.heap[b]? = w.heap[b]?) (hs : w.heap.size ≤ w'.heap.size) : Bx2 w' b v0 v1 :=
  ⟨(World.cell?_of_block (a := ⟨b, 0, none⟩) e).trans h.c0, (World.cell?_of_block (a := ⟨b, 1, none⟩) e).trans h.c1, fun i => (World.frozen?_of_block (a := ⟨b, i, none⟩) e).trans (h.f i), Nat.lt_of_lt_of_le h.lt hs⟩
theorem KL.km {w wk wk' : World} {vo vx : Value × Value} {b6 lo hi g4 h4 bx : Nat} {l : List Lf} {n : Nat} {R F T : Nat → Int} {p : List ByteArray} {ts : List ByteArray} {vS vI : Value} {B4 B7 : Nat} (h : KL w wk vo vx b6 lo hi g4 h4 bx l n R F T p ts vS vI B4 B7) (hb : Btw lo hi wk wk') (h1 : w.heap.size < lo) (h2 : ∀ g, vS.ownBlock = some g → g < lo) (h3 : hi ≤ B7) (h4 : hi ≤ bx) : KM w wk' vo ts vS vI B4 B7 ∧ PMk wk' bx p.length :=
  ⟨⟨h.low.trans ⟨hb.os, hb.tape, hb.output, hb.size, fun g hg => hb.block g (by have := h.box.lt; omega) (.inl (by omega))⟩, Bx2.at' h.box (hb.block _ h.box.lt (.inl h1)) hb.size, own_at h.oS fun g hg => hb.block g (h.oS.lt g hg).2 (.inl (h2 g hg)), own_at h.oI fun g hg => hb.block g (h.oI.lt g hg).2 (.inr (by have := (h.oI.lt g hg).1; omega))⟩, by
    obtain ⟨cur, k1, k2⟩ := h.pm
    exact ⟨cur, (hb.block bx (Array.getElem?_eq_some_iff.1 k1).1 (.inr h4)).trans k1, k2⟩⟩
theorem KM.below {w wk wk' : World} {vo : Value × Value} {ts : List ByteArray} {vS vI : Value} {B4 B7 : Nat} (h : KM w wk vo ts vS vI B4 B7) (hb : Below wk.heap.size wk wk') : KM w wk' vo ts vS vI B4 B7 :=
  ⟨keepS h.low hb, h.box.below hb h.box.lt, own_low h.oS hb, own_low h.oI hb⟩
theorem KM.grown {w wk wk' : World} {vo : Value × Value} {ts : List ByteArray} {vS vI : Value} {B4 B7 bx : Nat} (h : KM w wk vo ts vS vI B4 B7) (hb : wk.grownBy wk' (some bx)) (h1 : w.heap.size < bx) (h2 : ∀ g, vS.ownBlock = some g → g < bx) (h3 : bx < B7) : KM w wk' vo ts vS vI B4 B7 :=
  ⟨h.low.grown hb h.low.size (fun k e => by injection e with e; omega), Bx2.at' h.box (hb.block _ h.box.lt (fun e => by injection e with e; omega)) hb.size, own_at h.oS fun g hg => hb.block g (h.oS.lt g hg).2 (fun e => by injection e with e; have := h2 g hg; omega), own_at h.oI fun g hg => hb.block g (h.oI.lt g hg).2 (fun e => by injection e with e; have := (h.oI.lt g hg).1; omega)⟩

structure KN (w wk : World) (vo : Value × Value) (ts : List ByteArray) (vS : Value) (B4 : Nat) : Prop where
  low : Below w.heap.size w wk
  box : Bx2 wk w.heap.size vo.1 vo.2
  oS : wk.ownsRow B4 9 1 vS ts.length (sRow ts)
theorem KN.below {w wk wk' : World} {vo : Value × Value} {ts : List ByteArray} {vS : Value} {B4 : Nat} (h : KN w wk vo ts vS B4) (hb : Below wk.heap.size wk wk') : KN w wk' vo ts vS B4 :=
  ⟨keepS h.low hb, h.box.below hb h.box.lt, own_low h.oS hb⟩
theorem KM.kn {w wk wk' : World} {vo : Value × Value} {ts : List ByteArray} {vS vI : Value} {B4 B7 g : Nat} (h : KM w wk vo ts vS vI B4 B7) (hb : wk.grownBy wk' (some g)) (h1 : w.heap.size < g) (h2 : ∀ q, vS.ownBlock = some q → q < g) : KN w wk' vo ts vS B4 :=
  ⟨h.low.grown hb h.low.size (fun k e => by injection e with e; omega), Bx2.at' h.box (hb.block _ h.box.lt (fun e => by injection e with e; omega)) hb.size, own_at h.oS fun q hq => hb.block q (h.oS.lt q hq).2 (fun e => by injection e with e; have := h2 q hq; omega)⟩
theorem own_wr {w : World} {B g n cap : Nat} {ts : List ByteArray} (h : w.ownsRow B 9 1 (.slice (some ⟨g, 0, none⟩) n cap) n (sRow ts)) : ∃ C, Wr w g 9 n C := by
  rcases h.2 with ⟨h0, _⟩ | ⟨g', cap', cur, hv, hbase, hb, h1, h2, h3, h4⟩
  · cases h0
  · cases hv
    exact ⟨fun i => cur.getD i default, cur, hb, by omega, fun i hi => by simp [Array.getD, show i < cur.size by omega]⟩
set_option maxHeartbeats 1000000 in
theorem markStrings0 (a : Option Addr) (c k0 : Nat) (w : World) : Calls Try.prog 13 #[.slice a 0 c, .int .i64 (k0 : Int)] w fun e w' => e = .returned (.int .i64 (k0 : Int)) ∧ w' = w := by
  go_enter Try.func13, Try.ntmps13
  go_wp2_with fail
  refine wp_loop_rounds 1 ?_; rw [rounds_succ]; go_wp2_with fail
  go_ret
  exact ⟨rfl, rfl⟩
set_option maxHeartbeats 1000000 in
theorem heldStrings0 (a : Option Addr) (c k0 : Nat) (w : World) : Calls Try.prog 14 #[.slice a 0 c, .int .i64 (k0 : Int)] w fun e w' => e = .returned (.int .i64 (k0 : Int)) ∧ w' = w := by
  go_enter Try.func14, Try.ntmps14
  go_wp2_with fail
  refine wp_loop_rounds 1 ?_; rw [rounds_succ]; go_wp2_with fail
  go_ret
  exact ⟨rfl, rfl⟩

theorem markHeld (a : Option Addr) (c : Nat) (ts : List ByteArray) (B : Nat) (w : World) (hn : ts.length ≤ 1048576) (ho : w.ownsRow B 9 1 (.slice a ts.length c) ts.length (sRow ts)) :
    Calls Try.prog 13 #[.slice a ts.length c, .int .i64 1] w fun e w' => e = .returned (.int .i64 ((1 + ts.length : Nat) : Int)) ∧ (∃ g, B ≤ g ∧ w.grownBy w' (some g) ∨ w' = w) ∧ Calls Try.prog 14 #[.slice a ts.length c, .int .i64 1] w' fun e w'' => e = .returned (.int .i64 ((1 + ts.length : Nat) : Int)) ∧ Below w'.heap.size w' w'' := by
  by_cases h0 : ts.length = 0
  · rw [h0]
    refine (markStrings0 a c 1 w).mono ?_
    rintro e w' ⟨rfl, rfl⟩
    refine ⟨rfl, ⟨0, .inr rfl⟩, (heldStrings0 a c 1 w').mono ?_⟩
    rintro e w'' ⟨rfl, rfl⟩
    exact ⟨rfl, Below.refl _ _⟩
  · obtain ⟨g, rfl⟩ : ∃ g, a = some ⟨g, 0, none⟩ := by
      rcases ho.2 with ⟨e, h1⟩ | ⟨g, cap, cur, e, _⟩
      · exact absurd h1 h0
      · injection e with e; exact ⟨g, e⟩
    obtain ⟨C, hC⟩ := own_wr ho
    have hg := (ho.lt g rfl).1
    refine (markStrings g ts.length c 1 C w (by omega) hC).mono ?_
    rintro e w' ⟨rfl, g1, g2, _⟩
    refine ⟨rfl, ⟨g, .inl ⟨hg, g1⟩⟩, (heldStrings g ts.length c 1 w' (by omega) hn g2).mono ?_⟩
    rintro e w'' ⟨rfl, b⟩
    exact ⟨rfl, b⟩

set_option maxRecDepth 100000 in
set_option maxHeartbeats 4000000 in
theorem walk (a : Option Addr) (c : Nat) (l : List Lf) (x : Option Addr) (n d : Nat) (R F T : Nat → Int) (p : List ByteArray) (pa : Option Addr) (pc : Nat) (w : World) (hn : l.length ≤ 9223372036854775807) (hb : ∀ i, LfBig (gL l i)) (hi : ∀ i, LfI (gL l i)) (hm : n ≤ 9223372036854775807) (hpb : PBig p) (h : LSeg w a l) (h' : RSeg w x n R F T) (hs : SSeg w pa p) :
    Calls Try.prog 3 #[.agg #[.slice a l.length c, .slice x n d], .slice pa p.length pc] w fun e w' => e = .returned (.bool true) ∧ Below w.heap.size w w' := by
  obtain ⟨W, hW⟩ : ∃ W, w.alloc (.cells #[.slice a l.length c, .slice x n d] 27) = W := ⟨_, rfl⟩
  have b0 : Below w.heap.size w W := by rw [← hW]; exact (Below.refl _ _).alloc (Nat.le_refl _) _
  have B0 : Bx2 W w.heap.size (.slice a l.length c) (.slice x n d) := by rw [← hW]; exact Bx2.made _ _ _ _
  have k0 := B0.c0
  have l0 := B0.c1
  have HSZ := hid (szStateC a c l x n d 1048576 W (by omega) (by omega) hn hm hb (h.below b0))
  have HL := hid h
  have HR := hid h'
  have HS := hid hs
  have HB0 := hid b0
  have HBx := hid B0
  have HPB := hid hpb
  clear h h' hs b0 hb B0 hpb
  go_enter Try.func3, Try.ntmps3
  go_wp2_with fail
  try rw [hW]
  clear hW
  refine HSZ.out.mono ?_
  rintro e w1 ⟨⟨k', rfl, hk0, hk1, hsm⟩, b1⟩
  have HBx1 := hid (HBx.out.below b1 HBx.out.lt)
  have HB1 := hid (keepS HB0.out b1)
  have HSM := hid hsm
  clear hsm b1 HSZ HB0 k0 l0 HBx
  by_cases hneg : k' < 0
  · have d0 : decide (k' < 0) = true := by simpa using hneg
    clear HSM
    go_wp2_with fail
    go_ret
    exact ⟨rfl, HB1.out⟩
  · have d0 : decide (k' < 0) = false := by simpa using hneg
    obtain ⟨⟨hl, hlf⟩, hr⟩ := HSM.out (by omega)
    have hp : LBd l := fun i => (hlf i).1.1
    have HZ := hid (szStrings pa pc p k' w1 (by omega) (by omega) HPB.out (HS.out.below HB1.out))
    clear HSM hlf
    go_wp2_with fail
    refine HZ.out.mono ?_
    rintro e w2 ⟨⟨k'', rfl, hk2, hk3, hsm⟩, rfl⟩
    have HSM := hid hsm
    clear hsm HZ d0
    by_cases hneg2 : k'' < 0
    · have d0 : decide (k'' < 0) = true := by simpa using hneg2
      clear HSM
      go_wp2_with fail
      go_ret
      exact ⟨rfl, HB1.out⟩
    have d0 : decide (k'' < 0) = false := by simpa using hneg2
    have hps := HSM.out (by omega)
    have hpl := hps.1
    have HPS := hid hps
    have k0 := HBx1.out.c0
    have l0 := HBx1.out.c1
    clear HSM hps
    go_wp2_with fail
    refine (toStateC a c l x n d R F T w2 hl hp hr (HL.out.below HB1.out) (HR.out.below HB1.out)).mono ?_
    rintro e w3 ⟨g2, h2, _, _, _, _, rfl, s2, r2, b2⟩
    have HB2 := hid (keepS HB1.out b2)
    have HS2 := hid s2
    have HR2 := hid r2
    have HBx2 := hid (HBx1.out.below b2 HBx1.out.lt)
    clear b2 s2 r2 k0 l0 HBx1
    go_wp2_with fail
    refine (toStrings pa pc p w3 hpl (HS.out.below HB2.out)).mono ?_
    rintro e w4 ⟨rfl, s3, b3, _, _⟩
    have HB3 := hid (keepS HB2.out b3)
    have HSP := hid (specReadReg (some ⟨g2, 0, none⟩) l.length l (some ⟨h2, 0, none⟩) n n R F T p (some ⟨w3.heap.size, 0, none⟩) w4 hl hp hr hpl (HS2.out.below b3).cap (HR2.out.below b3) s3)
    have HBx3 := hid (HBx2.out.below b3 HBx2.out.lt)
    obtain ⟨Y, hY⟩ : ∃ Y, yes (RrOk R F T n l p) = Y := ⟨_, rfl⟩
    have HY := hid hY
    rw [hY] at HSP
    clear hY b3 s3 HS2 HR2 HBx2
    go_wp2_with fail
    refine HSP.out.mono ?_
    rintro e w5 ⟨⟨vS, ts, rfl, hoS, hlS, hS1, hS2⟩, b5⟩
    obtain ⟨aS, cS, rfl, _, _, _⟩ := own_sseg hoS
    have HB5 := hid (keepS HB3.out b5)
    have HBx5 := hid (HBx3.out.below b5 HBx3.out.lt)
    have HOS5 := hid hoS
    have HSx := hid (And.intro hS1 hS2)
    have k5 := HBx5.out.c0
    have l5 := HBx5.out.c1
    clear b5 HSP HBx3 hoS hS1 hS2
    go_wp2_with fail
    refine (toStateC a c l x n d R F T w5 hl hp hr (HL.out.below HB5.out) (HR.out.below HB5.out)).mono ?_
    rintro e w6 ⟨g4, h4, hg41, ⟨hg42, hlm⟩, hh41, ⟨hh42, hro⟩, rfl, s4, r4, b4⟩
    obtain ⟨W5, hW5⟩ : ∃ W5, w6.alloc (.cells #[.slice (some ⟨g4, 0, none⟩) l.length l.length, .slice (some ⟨h4, 0, none⟩) n n] 38) = W5 := ⟨_, rfl⟩
    have b5 : Below w6.heap.size w6 W5 := by rw [← hW5]; exact (Below.refl _ _).alloc (Nat.le_refl _) _
    have z5 : W5.heap.size = w6.heap.size + 1 := by rw [← hW5]; simp
    have X5 : Bx2 W5 w6.heap.size (.slice (some ⟨g4, 0, none⟩) l.length l.length) (.slice (some ⟨h4, 0, none⟩) n n) := by rw [← hW5]; exact Bx2.made _ _ _ _
    have HX5 := hid X5
    have HS5 := hid (s4.seg.below b5)
    have HR5 := hid (r4.below b5)
    have HB6 := hid (keepS HB5.out (keepS b4 b5))
    have HBx6 := hid (HBx5.out.below (keepS b4 b5) HBx5.out.lt)
    have HLM := hid (hlm.same (fun g _ h2 => b5.block g h2))
    have HRO : Hid (∃ ys, W5.ownsRow w5.heap.size 101 3 (.slice (some ⟨h4, 0, none⟩) n n) n ys) := hid (by obtain ⟨ys, ho⟩ := hro; exact ⟨ys, own_low ho b5⟩)
    have HOS6 := hid (own_low HOS5.out (keepS b4 b5))
    have HNum : Hid ((w.heap.size < w5.heap.size ∧ w5.heap.size ≤ w6.heap.size ∧ W5.heap.size = w6.heap.size + 1) ∧ w5.heap.size ≤ h4 ∧ h4 < w6.heap.size) := hid ⟨⟨HBx5.out.lt, b4.size, z5⟩, hh41, hh42⟩
    have HSlt : Hid (∀ g, (Value.slice aS ts.length cS).ownBlock = some g → g < w5.heap.size) := hid (fun g hg => (HOS5.out.lt g hg).2)
    clear b4 s4 r4 b5 X5 k5 l5 HBx5 hlm hro hg41 hg42 hh41 hh42 z5 HOS5
    go_wp2_with fail
    try rw [hW5]
    clear hW5
    refine (toStrings pa pc p W5 hpl (HS.out.below HB6.out)).mono ?_
    rintro e w7 ⟨rfl, s7, b7, z7, xs7, o7⟩
    have HS7 := hid s7
    have HPM7 := hid (PMk.of o7)
    have HB7 := hid (keepS HB6.out b7)
    have HBx7 := hid (HBx6.out.below b7 HBx6.out.lt)
    have HX7 := hid (HX5.out.below b7 HX5.out.lt)
    have HL7 := hid (HS5.out.below b7)
    have HR7 := hid (HR5.out.below b7)
    have HLM7 := hid (HLM.out.same (fun g _ h2 => b7.block g (by have := HNum.out.1.2.2; omega)))
    have HRO7 : Hid (∃ ys, w7.ownsRow w5.heap.size 101 3 (.slice (some ⟨h4, 0, none⟩) n n) n ys) := hid (by obtain ⟨ys, ho⟩ := HRO.out; exact ⟨ys, own_low ho b7⟩)
    have HOS7 := hid (own_low HOS6.out b7)
    have HZ7 := hid z7
    have x7 := HX7.out.c0
    have y7 := HX7.out.c1
    clear b7 s7 z7 o7 HBx6 HX5 HS5 HR5 HLM HRO HOS6
    go_wp2_with fail
    refine (implReadReg _ l.length l _ n n R F T p (some ⟨W5.heap.size, 0, none⟩) p.length w7 hl hp hi hr hpl HL7.out HR7.out HS7.out).mono ?_
    rintro e w8 ⟨⟨vI, tI, rfl, hoI, hlI, hI1, hI2⟩, b8⟩
    have htt : tI = ts := by
      by_cases e : RrOk R F T n l p
      · exact (hI1 e).uniq (HSx.out.1 e) (fun s => Iff.rfl)
      · rw [hI2 e, HSx.out.2 e]
    subst htt
    obtain ⟨aI, cI, rfl, _, _, _⟩ := own_sseg hoI
    rw [HY.out]
    have HK : Hid (KL w w8 (.slice a l.length c, .slice x n d) (.slice (some ⟨g4, 0, none⟩) l.length l.length, .slice (some ⟨h4, 0, none⟩) n n) w6.heap.size w5.heap.size w6.heap.size g4 h4 W5.heap.size l n R F T p tI (.slice aS tI.length cS) (.slice aI tI.length cI) w4.heap.size w7.heap.size) := hid
      ⟨keepS HB7.out b8, HBx7.out.below b8 HBx7.out.lt, HX7.out.below b8 HX7.out.lt, HL7.out.below b8, HR7.out.below b8, HS7.out.below b8, by have := HX7.out.lt; have := b8.size; omega, HLM7.out.same (fun g _ h2 => b8.block g (by have := HX7.out.lt; omega)), by obtain ⟨ys, ho⟩ := HRO7.out; exact ⟨ys, own_low ho b8⟩, PMk.low HPM7.out b8, own_low HOS7.out b8, hoI⟩
    have dY : (Y != Y) = false := by simp
    have dY2 : (Y == Y) = true := by simp
    clear b8 hoI hlI hI1 hI2 x7 y7 HBx7 HX7 HL7 HR7 HS7 HLM7 HRO7 HPM7 HOS7 HB7 HB6 HB5 HB3 HB2 HB1
    have HEQ : Hid (∀ (wk : World) (B4 B7 : Nat), wk.ownsRow B7 9 1 (.slice aI tI.length cI) tI.length (sRow tI) → wk.ownsRow B4 9 1 (.slice aS tI.length cS) tI.length (sRow tI) → Calls Try.prog 10 #[.slice aI tI.length cI, .slice aS tI.length cS] wk fun e w' => e = .returned (.bool true) ∧ Below wk.heap.size wk w') := hid (fun wk B4 B7 h1 h2 => by
      obtain ⟨a1, c1, e1, k1, _, _⟩ := own_sseg h1
      obtain ⟨a2, c2, e2, k2, _, _⟩ := own_sseg h2
      injection e1 with e1 _ _
      injection e2 with e2 _ _
      subst e1; subst e2
      exact eqStrings _ _ cI cS tI wk hlS k1 k2)
    have HE1 := hid (HEQ.out w8 _ _ HK.out.oI HK.out.oS)
    go_wp2_with fail
    refine HE1.out.mono ?_
    rintro e w9 ⟨rfl, b9⟩
    have HK9 := hid (HK.out.below b9)
    clear b9 HE1 HK
    go_wp2_with fail
    have HCS : Hid (∀ w', Below w9.heap.size w9 w' → (Below w9.heap.size w9 w' ∧ w'.cell? ⟨w6.heap.size, 0, none⟩ = some (.slice (some ⟨g4, 0, none⟩) l.length l.length) ∧ w'.cell? ⟨w6.heap.size, 1, none⟩ = some (.slice (some ⟨h4, 0, none⟩) n n) ∧ w'.cell? ⟨w.heap.size, 0, none⟩ = some (.slice a l.length c) ∧ w'.cell? ⟨w.heap.size, 1, none⟩ = some (.slice x n d))) := hid (fun w' hB => by
      have K := HK9.out.below hB
      exact ⟨hB, K.xbox.c0, K.xbox.c1, K.box.c0, K.box.c1⟩)
    refine wp_region_held_drew (S := fun w' => Below w9.heap.size w9 w' ∧ w'.cell? ⟨w6.heap.size, 0, none⟩ = some (.slice (some ⟨g4, 0, none⟩) l.length l.length) ∧ w'.cell? ⟨w6.heap.size, 1, none⟩ = some (.slice (some ⟨h4, 0, none⟩) n n) ∧ w'.cell? ⟨w.heap.size, 0, none⟩ = some (.slice a l.length c) ∧ w'.cell? ⟨w.heap.size, 1, none⟩ = some (.slice x n d)) (by kernel_rfl) (HCS.out _ (Below.refl _ _).drew) (fun hHeld => ?_)
    refine take1 (i := 0) (d := some 54) (v := ?_) (by kernel_rfl) (by kernel_rfl) (by kernel_rfl) (by kernel_rfl) (fun _ _ _ h => h) ?_ hHeld ?_
    rotate_left
    · (intro o ho; simp only [List.getElem?_toArray, List.getElem?_cons_succ, List.getElem?_cons_zero, Option.some.injEq] at ho; subst ho; refine Or.inl ⟨by rfl, ?_⟩; intro w hSw; (try dsimp only at hSw); go_simp; try with_reducible rfl)
    try simp only [Act.put, List.setIfInBounds_toArray, List.set_cons_zero, List.set_cons_succ]
    refine take1 (i := 1) (d := some 55) (v := ?_) (by kernel_rfl) (by kernel_rfl) (by kernel_rfl) (by kernel_rfl) (fun _ _ _ h => h) ?_ hHeld ?_
    rotate_left
    · (intro o ho; simp only [List.getElem?_toArray, List.getElem?_cons_succ, List.getElem?_cons_zero, Option.some.injEq] at ho; subst ho; refine Or.inl ⟨by rfl, ?_⟩; intro w hSw; (try dsimp only at hSw); go_simp; try with_reducible rfl)
    try simp only [Act.put, List.setIfInBounds_toArray, List.set_cons_zero, List.set_cons_succ]
    refine call1 (i := 2) (d := some 56) (by kernel_rfl) (by kernel_rfl) ?_
    intro o ho hod K hK; simp only [List.getElem?_toArray, List.getElem?_cons_succ, List.getElem?_cons_zero, Option.some.injEq] at ho; subst ho
    go_simp
    refine (toStateC a c l x n d R F T _ hl hp hr (HL.out.below (HK9.out.below hHeld.1).low) (HR.out.below (HK9.out.below hHeld.1).low)).mono ?_
    rintro e w10 ⟨g7, h7, _, _, _, _, rfl, s9, r9, b9⟩
    have hB9 := keepS hHeld.1 b9
    refine hK.out _ _ (HCS.out _ hB9) (fun hHeld => ?_)
    clear hK K
    try simp only [Act.put, List.setIfInBounds_toArray, List.set_cons_zero, List.set_cons_succ]
    refine call1 (i := 3) (d := some 57) (by kernel_rfl) (by kernel_rfl) ?_
    intro o ho hod K hK; simp only [List.getElem?_toArray, List.getElem?_cons_succ, List.getElem?_cons_zero, Option.some.injEq] at ho; subst ho
    go_simp
    refine (eqStateC _ _ l.length l.length l _ _ n n n R F T _ hl hp hr (HK9.out.below hB9).lf s9.seg (HK9.out.below hB9).rn r9).mono ?_
    rintro e w11 ⟨rfl, b10⟩
    have hB10 := keepS hB9 b10
    refine hK.out _ _ (HCS.out _ hB10) (fun hHeld => ?_)
    clear hK K
    try simp only [Act.put, List.setIfInBounds_toArray, List.set_cons_zero, List.set_cons_succ]
    refine take1 (i := 4) (d := some 58) (v := ?_) (by kernel_rfl) (by kernel_rfl) (by kernel_rfl) (by kernel_rfl) (fun _ _ _ h => h) ?_ hHeld ?_
    rotate_left
    · (intro o ho; simp only [List.getElem?_toArray, List.getElem?_cons_succ, List.getElem?_cons_zero, Option.some.injEq] at ho; subst ho; refine Or.inl ⟨by rfl, ?_⟩; intro w hSw; (try dsimp only at hSw); go_simp; try with_reducible rfl)
    try simp only [Act.put, List.setIfInBounds_toArray, List.set_cons_zero, List.set_cons_succ]
    refine wpAnyH_done (by kernel_rfl) ?_ _
    have HK11 := hid (HK9.out.below hB10)
    clear hHeld hB9 hB10 b9 b10 s9 r9 HCS HK9
    go_wp2_with fail
    refine (toStrings pa pc p w11 hpl (HS.out.below HK11.out.low)).mono ?_
    rintro e w12 ⟨rfl, s12, b12, _, _⟩
    have HK12 := hid (HK11.out.below b12)
    have HE := hid (eqStrings (some ⟨W5.heap.size, 0, none⟩) (some ⟨w11.heap.size, 0, none⟩) p.length p.length p w12 hpl HK12.out.st s12)
    clear s12 b12 HK11
    go_wp2_with fail
    refine HE.out.mono ?_
    rintro e w13 ⟨rfl, b13⟩
    have HK13 := hid (HK12.out.below b13)
    have x13 := HK13.out.xbox.c0
    have y13 := HK13.out.xbox.c1
    clear b13 HE HK12
    go_wp2_with fail
    obtain ⟨ys13, ho13⟩ := HK13.out.ro
    refine (markStateC w5.heap.size w6.heap.size g4 h4 n 1 l ys13 w13 (by omega) hl hp hr HK13.out.hiLe HNum.out.2 HK13.out.lm ho13).mono ?_
    rintro e w14 ⟨⟨k1, hk1, rfl⟩, bt14⟩
    obtain ⟨km14, pm14⟩ := HK13.out.km bt14 HNum.out.1.1 HSlt.out (by have := HNum.out.1.2.2; have := HZ7.out; omega) (by have := HNum.out.1.2.2; omega)
    have HKM14 := hid km14
    obtain ⟨C14, hC14⟩ := pm14.wr
    have HMS := hid (markStrings W5.heap.size p.length p.length k1 C14 w14 (by omega) hC14)
    clear km14 pm14 bt14 hC14 ho13 x13 y13 HK13
    go_wp2_with fail
    refine HMS.out.mono ?_
    rintro e w15 ⟨rfl, g15, _, _⟩
    have HKM15 := hid (HKM14.out.grown g15 (by have := HNum.out.1; omega) (fun g hg => by have := HSlt.out g hg; have := HNum.out.1; omega) HZ7.out)
    obtain ⟨m, hm15⟩ : ∃ m, k1 + p.length = m := ⟨_, rfl⟩
    rw [hm15]
    have dm : decide ((m : Int) < 0) = false := by simp
    have HE16 := hid (HEQ.out w15 _ _ HKM15.out.oI HKM15.out.oS)
    clear g15 HMS HKM14 hm15
    go_wp2_with fail
    refine HE16.out.mono ?_
    rintro e w16 ⟨rfl, b16⟩
    have HKM16 := hid (HKM15.out.below b16)
    have HMH := hid (markHeld aI cI tI w7.heap.size w16 hlS HKM16.out.oI)
    clear b16 HE16 HKM15
    go_wp2_with fail
    refine HMH.out.mono ?_
    rintro e w17 ⟨rfl, hgg, held⟩
    have HKN17 : Hid (KN w w17 (.slice a l.length c, .slice x n d) tI (.slice aS tI.length cS) w4.heap.size) := hid (by
      rcases hgg with ⟨g, ⟨hg1, hg2⟩ | rfl⟩
      · exact HKM16.out.kn hg2 (by have := HNum.out.1; have := HZ7.out; omega) (fun q hq => by have := HSlt.out q hq; have := HNum.out.1; have := HZ7.out; omega)
      · exact ⟨HKM16.out.low, HKM16.out.box, HKM16.out.oS⟩)
    obtain ⟨M, hM⟩ : ∃ M, 1 + tI.length = M := ⟨_, rfl⟩
    rw [hM] at held ⊢
    have HHD := hid held
    have dM : decide ((M : Int) < 0) = false := by simp
    have dM2 : ((M : Int) != (M : Int)) = false := by simp
    clear hgg held HMH HKM16 hM
    go_wp2_with fail
    refine HHD.out.mono ?_
    rintro e w18 ⟨rfl, b18⟩
    have HKN18 := hid (HKN17.out.below b18)
    have k18 := HKN18.out.box.c0
    have l18 := HKN18.out.box.c1
    clear b18 HHD HKN17
    go_wp2_with fail
    refine (toStateC a c l x n d R F T w18 hl hp hr (HL.out.below HKN18.out.low) (HR.out.below HKN18.out.low)).mono ?_
    rintro e w19 ⟨g8, h8, _, _, _, _, rfl, s8, r8, b19⟩
    have HKN19 := hid (HKN18.out.below b19)
    have HS19 := hid s8.seg
    have HR19 := hid r8
    clear s8 r8 b19 k18 l18 HKN18
    go_wp2_with fail
    refine (toStrings pa pc p w19 hpl (HS.out.below HKN19.out.low)).mono ?_
    rintro e w20 ⟨rfl, s20, b20, _, _⟩
    have HKN20 := hid (HKN19.out.below b20)
    have HI20 := hid (implReadReg _ l.length l _ n n R F T p (some ⟨w19.heap.size, 0, none⟩) p.length w20 hl hp hi hr hpl (HS19.out.below b20) (HR19.out.below b20) s20)
    clear s20 b20 HS19 HR19 HKN19
    go_wp2_with fail
    refine HI20.out.mono ?_
    rintro e w21 ⟨⟨v8, t8, rfl, ho8, hl8, hI81, hI82⟩, b21⟩
    have htt : t8 = tI := by
      by_cases e : RrOk R F T n l p
      · exact (hI81 e).uniq (HSx.out.1 e) (fun s => Iff.rfl)
      · rw [hI82 e, HSx.out.2 e]
    subst htt
    obtain ⟨a8, c8, rfl, k8, _, _⟩ := own_sseg ho8
    rw [HY.out]
    have HKN21 := hid (HKN20.out.below b21)
    have HE22 : Hid (Calls Try.prog 10 #[.slice a8 t8.length c8, .slice aS t8.length cS] w21 fun e w' => e = .returned (.bool true) ∧ Below w21.heap.size w21 w') := hid (by
      obtain ⟨a2, c2, e2, k2, _, _⟩ := own_sseg HKN21.out.oS
      injection e2 with e2 _ _
      subst e2
      exact eqStrings _ _ c8 cS t8 w21 hl8 k8 k2)
    clear ho8 k8 hI81 hI82 b21 HI20 HKN20
    go_wp2_with fail
    refine HE22.out.mono ?_
    rintro e w22 ⟨rfl, b22⟩
    have HZ := hid (HKN21.out.below b22).low
    clear b22 HE22 HKN21
    go_wp2_with fail
    go_ret
    exact ⟨rfl, HZ.out⟩

theorem own : ownKnob Try.prog.godebug = none := by kernel_rfl
theorem laidOut : laidOutB Try.prog = true := by kernel_rfl

set_option maxRecDepth 100000 in
theorem lifted (os : Os) (started : os.Started) (H : Type) (enc : TypeId × Value → H) :
    ReturnsInHanded {} Try.checked os 3 .any (Rows.fnExactReadRegSpec.pre6 enc Try.prog Try.f3 Rows.fnExactReadRegRow.domain false) (Rows.fnExactReadRegSpec.post enc Try.prog Try.f3 false true false false) := by
  refine returnsInHanded_of_change (C := Try.checked) own started (by kernel_rfl) Try.func3
    (ChangeSpec.witness6 (enc := enc) (C := Try.checked) false ⟨#[], #[.agg #[.slice none 0 0, .slice none 0 0], .slice none 0 0], []⟩ 8 (by kernel_rfl) (by kernel_rfl) (by kernel_rfl) (by kernel_rfl)) ?_
  intro W base args ds gs before hval0 hW hcnd _
  have hval : ∀ (j : Nat) t v, Try.f3.params[j]? = some t → args[j]? = some v → Value.okWide Try.prog W .any base t v := hval0
  have hW' := hW
  obtain ⟨p, q, hA0, hV, rfl, hfz, hnd⟩ := hW
  have hA : DataW.TrodAll enc Try.prog W 0 (fun _ => true) true Try.f3.params.toList args.toList ds p := hA0
  rw [Try.params3] at hA hval
  obtain ⟨v0, vs0, d0, ds0, p0, q0, hargs, rfl, rfl, h0, r0⟩ := trodAll_cons hA
  obtain ⟨v1, vs1, d1, ds1, p1, q1, hargs1, rfl, rfl, h1, r1⟩ := trodAll_cons r0
  obtain ⟨rfl, rfl, rfl⟩ := trodAll_nil r1
  subst hargs1
  obtain rfl : args = #[v0, v1] := by cases args; simp_all
  obtain ⟨rfl, rfl⟩ := trodVars_none hV
  have k0 := h0
  have k1 := h1
  have lt0 : ∀ x ∈ p0, x.block < W.heap.size := by obtain ⟨m, hm⟩ := k0; exact DataW.trod_lt m _ _ _ hm
  have lt1 : ∀ x ∈ p1, x.block < W.heap.size := by obtain ⟨m, hm⟩ := k1; exact DataW.trod_lt m _ _ _ hm
  obtain ⟨a0, c0, l0, x0, n0, e0, R0, F0, T0, rfl, hl0, w0, hb0, hi0, hn0, w1, _, _, _⟩ := openState (hval 0 27 v0 rfl rfl) h0
  obtain ⟨pa, p, pc, rfl, w2, hpb⟩ := openPath (hval 1 28 v1 rfl rfl) h1
  clear hA0 hval0
  refine (walk a0 c0 l0 x0 n0 e0 R0 F0 T0 p pa pc W hl0 hb0 hi0 hn0 hpb w0 w1 w2).mono fun e W' ⟨he, bel⟩ => ?_
  subst he
  exact ⟨_, rfl, _, _, _, [], _, [], hW', trodAll_mk1 (shut_bool Try.underlying4 _), (trodAll_cons_mk (Below.trod laidOut (by kernel_rfl) (of_decide_eq_true (by kernel_rfl)) k0 bel lt0) (trodAll_cons_mk (Below.trod laidOut (by kernel_rfl) (of_decide_eq_true (by kernel_rfl)) k1 bel lt1) trodAll_mk0)), rfl, bel.frame _, fun h => by cases h⟩

theorem over : Rows.fnExactReadRegRow.holds Try.pinned (OpenSpec.ofChange Rows.fnExactReadRegSpec) :=
  OpenClaim.holds_of_wide 3 Try.f3 rfl rfl rfl rfl rfl rfl rfl ⟨rfl, rfl, rfl, rfl, rfl⟩ rfl rfl rfl rfl rfl (by kernel_rfl) Try.func3 (by kernel_rfl)
    (of_decide_eq_true (by kernel_rfl)) (by unfold Func.isWrapper; first | (rw [if_pos (by decide +kernel)]; kernel_rfl) | (rw [if_neg (by decide +kernel)]; exact ⟨rfl, rfl⟩))
    (fun os started H enc _ => lifted os started H enc)
end Go.Proofs.Ytkhicohhahaahaa.fnExactReadReg

namespace Go.Proofs.Ytkhicohhahaahaa
theorem readRegHolds : Rows.FnExactReadRegSaid := fnExactReadReg.over
#print axioms readRegHolds
end Go.Proofs.Ytkhicohhahaahaa
