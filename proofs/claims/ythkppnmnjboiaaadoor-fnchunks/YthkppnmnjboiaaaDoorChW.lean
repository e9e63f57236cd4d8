import Derived.Test.YthkppnmnjboiaaaDoorSe
namespace Go.Proofs.YthkppnmnjboiaaaDoor.fnChunks
open Go.ChangeShapes Go.WideShapes Go.ChangeAt Go.RowKit
set_option linter.unusedVariables false
set_option linter.unusedSimpArgs false

def Bx3 (W : World) (b : Nat) (v0 v1 v2 : Value) : Prop := W.cell? ⟨b, 0, none⟩ = some v0 ∧ W.cell? ⟨b, 1, none⟩ = some v1 ∧ W.cell? ⟨b, 2, none⟩ = some v2
theorem Bx3.below {W W' : World} {B b : Nat} {v0 v1 v2 : Value} (h : Bx3 W b v0 v1 v2) (hb : Below B W W') (hB : b < B) : Bx3 W' b v0 v1 v2 :=
  ⟨(hb.cell (p := ⟨b, 0, none⟩) hB).trans h.1, (hb.cell (p := ⟨b, 1, none⟩) hB).trans h.2.1, (hb.cell (p := ⟨b, 2, none⟩) hB).trans h.2.2⟩
theorem Bx3.new (w : World) (v0 v1 v2 : Value) (t : TypeId) : Bx3 (w.alloc (.cells #[v0, v1, v2] t)) w.heap.size v0 v1 v2 := by simp [Bx3]
theorem Bx3.lt {W : World} {b : Nat} {v0 v1 v2 : Value} (h : Bx3 W b v0 v1 v2) : b < W.heap.size := by
  rcases Nat.lt_or_ge b W.heap.size with h1 | h1
  · exact h1
  · have := h.1; simp [World.cell?, Array.getElem?_eq_none h1] at this
theorem own_form2 {w : World} {B : Nat} {v : Value} {zs : List Int} (h : Own w B v zs) : ∃ a c, v = .slice a zs.length c ∧ Seg w a zs.length (gz zs) ∧ zs.length ≤ c ∧ c ≤ 9223372036854775807 ∧ (∀ b, (Value.slice a zs.length c).ownBlock = some b → b < w.heap.size) := by
  rcases own_form h with ⟨rfl, h0⟩ | ⟨g, cap, rfl, _, h1, h2, h3, h4⟩
  · exact ⟨none, 0, by rw [h0], .inl h0, by omega, by omega, fun b hb => by simp [Value.ownBlock] at hb⟩
  · exact ⟨_, cap, rfl, .inr ⟨g, 0, rfl, h1, fun i hi => by rw [Nat.zero_add]; exact h4 i hi⟩, h2, h3, fun b hb => by simp [Value.ownBlock] at hb; omega⟩
theorem feed0 (F : Nat → Int) : feedF F 0 0 = (0, 0, []) := by
  have e : firstF (shF F 0) (0 - 0) = (0, 0) := by unfold firstF; simp [headF]
  rw [feedF_stop (by rw [e]), e]
theorem payl_gz (zs : List Int) : payl (gz zs) zs.length = zs := by
  refine List.ext_getElem? (fun i => ?_)
  by_cases hi : i < zs.length
  · simp [payl, gz, List.getD, hi]
  · rw [List.getElem?_eq_none (by simp [payl]; omega), List.getElem?_eq_none (by omega)]
theorem specOnce (a : Option Addr) (c : Nat) (zs : List Int) (w : World) (hz : zs.length ≤ 5000) (hF : Byt (gz zs)) (hs : Seg w a zs.length (gz zs)) :
    Calls Tryd.prog 5 #[.agg #[.slice none 0 0, .int .i64 0, .int .i64 0], .slice a zs.length c] w fun e w' => Below w.heap.size w w' ∧
      ∃ a' c' fv l, e = .returned (.tuple #[.agg #[.slice a' (restF (gz zs) zs.length) c', .int .i64 ((feedF (gz zs) zs.length 0).2.1 : Nat), .int .i64 ((feedF (gz zs) zs.length 0).1 : Nat)], fv]) ∧ Seg w' a' (restF (gz zs) zs.length) (shF (gz zs) (feedF (gz zs) zs.length 0).2.1) ∧ FxW w' w.heap.size fv l ∧ l.map prFx = (feedF (gz zs) zs.length 0).2.2 := by
  have hle := feedF_le (gz zs) zs.length (zs.length + 1) 0 (by omega) (Nat.zero_le _)
  have e1 : payl (fun _ => (0 : Int)) 0 ++ payl (gz zs) zs.length = zs := by rw [payl_gz]; simp [payl]
  refine (specFeedG none 0 0 a zs.length c (fun _ => 0) (gz zs) 0 w (by omega) (by omega) (fun _ => by show (0 : Int) ≤ 0 ∧ (0 : Int) < 256; omega) hF (.inl rfl) hs (by rw [IntKind.wrap_i64]; rfl)).mono ?_
  rintro e w' ⟨hb, a', m, c', fv, l, rfl, rfl, s, fx, hl⟩
  rw [e1, Nat.zero_add] at s hl ⊢
  have hw : IntKind.i64.wrap (0 + ((feedF (gz zs) zs.length 0).2.1 : Nat) : Int) = ((feedF (gz zs) zs.length 0).2.1 : Nat) := by rw [IntKind.wrap_i64]; omega
  rw [hw]
  refine ⟨hb, a', c', fv, l, rfl, s.seg, ⟨row_weak fx.row (by omega), fun i hi => own_weak (fx.pay i hi) (by omega)⟩, hl⟩
theorem FxW.fxs {w : World} {B : Nat} {v : Value} {l : List Fx} (h : FxW w B v l) : ∃ a c, v = .slice a l.length c ∧ FxS w a l := by
  rcases h.row.2 with ⟨e, e0⟩ | ⟨g, cap, cur, e, hb, _⟩
  · exact ⟨none, 0, by rw [e, e0], .inl e0⟩
  · refine ⟨_, cap, e, .inr ⟨g, 0, rfl, (World.ownsRow.lt h.row g (by rw [e]; rfl)).2, fun i hi => ?_⟩⟩
    have h1 := h.row
    rw [e] at h1
    obtain ⟨pa, pc, e1, s1⟩ := (h.pay i hi).any
    rw [Nat.zero_add]
    refine ⟨?_, ?_, pa, pc, e1, s1⟩
    · rw [h1.cellAt _ (by omega)]; exact (fxCells_get l i hi).1
    · rw [h1.cellAt _ (by omega)]; exact (fxCells_get l i hi).2
theorem fx_bnd {l : List Fx} {F : Nat → Int} {N : Nat} (hF : Byt F) (hN : N ≤ 5000) (he : l.map prFx = (feedF F N 0).2.2) : l.length ≤ 5000 ∧ (∀ i, (gFx l i).2.2.length ≤ 1048576) ∧ ∀ i, Byt (gz (gFx l i).2.2) := by
  have hs := feedF_sum2 F hF N (N + 1) 0 (by omega) (Nat.zero_le _)
  have hb := feedF_byt F hF N (N + 1) 0 (by omega) (Nat.zero_le _)
  have hl : ∀ fs : List (Int × List Int), fs.length ≤ (fs.map (fun x => 8 + x.2.length)).sum := by
    intro fs
    induction fs with
    | nil => simp
    | cons a fs ih => simp only [List.map_cons, List.sum_cons, List.length_cons]; omega
  have h1 : l.length ≤ 5000 := by
    have := hl (feedF F N 0).2.2
    rw [← he, List.length_map, he] at this
    have := hs.1
    omega
  have key : ∀ i, gFx l i = (0, .slice none 0 0, []) ∨ prFx (gFx l i) ∈ (feedF F N 0).2.2 := fun i => by
    by_cases hi : i < l.length
    · right
      have e : gFx l i = l[i] := by simp [gFx, List.getD, hi]
      rw [e, ← he]
      exact List.mem_map.2 ⟨_, List.getElem_mem hi, rfl⟩
    · left
      simp [gFx, List.getD, List.getElem?_eq_none (show l.length ≤ i by omega)]
  refine ⟨h1, fun i => ?_, fun i => ?_⟩
  · rcases key i with e | e
    · rw [e]; simp
    · have h2 : (gFx l i).2.2.length ≤ 4000 := hs.2 _ e
      omega
  · rcases key i with e | e
    · rw [e]; intro k; simp [gz]
    · exact gz_byte (hb _ e)

theorem _root_.Go.Proofs.YthkppnmnjboiaaaDoor.GtR.app2 {w0 w9 : World} {B E : Nat} {gv v9 fv : Value} {lg l : List Fx} (h0 : GtR w0 B gv lg) (hg : ∀ k, gv.ownBlock = some k → k < E) (hp : ∀ i, i < lg.length → ∀ k, (gFx lg i).2.1.ownBlock = some k → k < E) (hB : B ≤ E) (hn : FxR w0 E fv l) (gg : w0.grownBy w9 gv.ownBlock)
    (hown : w9.ownsRow B 41 2 v9 (lg.length + l.length) (fxCells lg ++ fxCells l)) (hloc : v9.ownBlock = gv.ownBlock ∨ ∃ k, v9.ownBlock = some k ∧ w0.heap.size ≤ k) : GtR w9 B v9 (lg ++ l) := by
  have hold : ∀ i, i < lg.length → ∀ k, (gFx lg i).2.1.ownBlock = some k → k < w0.heap.size := fun i hi k hk => (World.ownsRow.lt (h0.pay i hi) k hk).2
  have hnew : ∀ i, i < l.length → ∀ k, (gFx l i).2.1.ownBlock = some k → E ≤ k ∧ k < w0.heap.size := fun i hi k hk => World.ownsRow.lt (hn.pay i hi) k hk
  refine ⟨?_, fun i hi => ?_, fun i hi k hk e => ?_⟩
  · have e : fxCells (lg ++ l) = fxCells lg ++ fxCells l := by simp [fxCells]
    rw [e, List.length_append]; exact hown
  · by_cases h1 : i < lg.length
    · rw [gFx_left h1]
      exact (h0.pay i h1).gr gg (fun g e1 e2 => h0.far i h1 g e1 e2.symm)
    · have hi' : i - lg.length < l.length := by rw [List.length_append] at hi; omega
      rw [gFx_right (by omega)]
      exact (own_weak (hn.pay _ hi') hB).gr gg (fun g e1 e2 => by have := (hnew _ hi' g e1).1; have := hg g e2.symm; omega)
  · by_cases h1 : i < lg.length
    · rw [gFx_left h1] at hk
      rcases hloc with q | ⟨j, q, hj⟩
      · exact h0.far i h1 k hk (q ▸ e)
      · rw [q] at e; injection e with e; have := hold i h1 k hk; omega
    · have hi' : i - lg.length < l.length := by rw [List.length_append] at hi; omega
      rw [gFx_right (by omega)] at hk
      have := hnew _ hi' k hk
      rcases hloc with q | ⟨j, q, hj⟩
      · have := hg k (q ▸ e); omega
      · rw [q] at e; injection e with e; omega

structure LcI (w6 wr : World) (F : Nat → Int) (lc : List (Value × List Int)) (j : Nat) (gv : Value) : Prop where
  xb : Below w6.heap.size w6 wr
  lt : w6.heap.size + 1 < wr.heap.size
  bx : ∃ bv, Bx3 wr w6.heap.size bv (.int .i64 ((feedF F (qAt lc j) 0).2.1 : Nat)) (.int .i64 ((feedF F (qAt lc j) 0).1 : Nat)) ∧ Own wr (w6.heap.size + 1) bv (payl (shF F (feedF F (qAt lc j) 0).2.1) (restF F (qAt lc j)))
  fz : ∀ i, wr.frozen? ⟨w6.heap.size, i, none⟩ = false
  gt : ∃ lg, GtR wr (w6.heap.size + 1) gv lg ∧ lg.map prFx = (feedF F (qAt lc j) 0).2.2

set_option maxRecDepth 100000 in
set_option maxHeartbeats 2000000 in
theorem walk (w : World) (a1 : Option Addr) (n1 c1 : Nat) (f1 : Nat → Int) (a2 : Option Addr) (n2 c2 : Nat) (f2 : Nat → Int) (aT aS aL aE : Addr) (hn1 : n1 ≤ 9223372036854775807) (hnc1 : n1 ≤ c1) (hn2 : n2 ≤ 9223372036854775807) (hnc2 : n2 ≤ c2) (s1 : Seg w a1 n1 f1) (hf1 : Byt f1) (s2 : Seg w a2 n2 f2) (hf2 : Byt f2) (hE : Errs w w.heap.size aT aS aL aE) :
    Calls Tryd.prog 3 #[.slice a1 n1 c1, .slice a2 n2 c2] w fun e w' => e = .returned (.bool true) ∧ Below w.heap.size w w' := by
  by_cases hl1 : n1 ≤ 1048576
  · by_cases hl2 : n2 ≤ 1048576
    · have HSB := hid (streamBytesC a1 n1 c1 f1 w hnc1 hn1 s1 hf1)
      have HS2 := hid s2
      have HF2 := hid hf2
      have HER := hid hE
      clear s1 hf1 s2 hf2 hE
      go_enter Tryd.func3, Tryd.ntmps3
      go_wp2_with fail
      refine HSB.out.mono ?_
      rintro e w1 ⟨v1, zs, rfl, hzl, hby, b1⟩
      have hF := gz_byte hby.2
      obtain ⟨sa, cs, rfl, ss, hcs1, hcs2, hblk⟩ := own_form2 hby.1
      have HF := hid hF
      have HZ := hid hzl
      have HB1 := hid b1
      have HSS := hid ss
      have HBK := hid hblk
      have HC1 := hid hcs1
      have HSP := hid (specOnce sa cs zs w1 hzl hF ss)
      clear hby b1 ss hblk hF hzl HSB hcs1
      go_wp2_with fail
      refine HSP.out.mono ?_
      rintro e w2 ⟨b2, a3, c3, fv3, l3, rfl, s3, fx3, hl3⟩
      obtain ⟨fa3, fc3, rfl, fs3⟩ := FxW.fxs fx3
      obtain ⟨m3, hm3⟩ : ∃ m3, restF (gz zs) zs.length = m3 := ⟨_, rfl⟩
      obtain ⟨T3, hT3⟩ : ∃ T3, (feedF (gz zs) zs.length 0).2.1 = T3 := ⟨_, rfl⟩
      obtain ⟨X3, hX3⟩ : ∃ X3, (feedF (gz zs) zs.length 0).1 = X3 := ⟨_, rfl⟩
      rw [hm3, hT3] at s3
      rw [hm3, hT3, hX3]
      have HM3 := hid hm3
      have HT3 := hid hT3
      have HX3 := hid hX3
      obtain ⟨W3, hW3⟩ : ∃ W3, w2.alloc (.cells #[.slice a3 m3 c3, .int .i64 (T3 : Int), .int .i64 (X3 : Int)] 25) = W3 := ⟨_, rfl⟩
      have b3 : Below w2.heap.size w2 W3 := by rw [← hW3]; exact (Below.refl _ _).alloc (Nat.le_refl _) _
      have K3 : Hid (Bx3 W3 w2.heap.size (.slice a3 m3 c3) (.int .i64 (T3 : Int)) (.int .i64 (X3 : Int))) := by rw [← hW3]; exact hid (Bx3.new _ _ _ _ _)
      have S3 := hid (s3.below b3)
      have F3 := hid (fs3.below b3)
      have HL3 := hid hl3
      have HB3 := hid (keepS (keepS HB1.out b2) b3)
      have SS3 := hid ((HSS.out.below b2).below b3)
      have z3 := b3.size
      have z2 := b2.size
      clear b2 b3 s3 fx3 fs3 hl3 hm3 hT3 hX3 HSP HSS
      have HIM := hid (feedStepC (gz zs) HF.out 0 zs.length (by have := HZ.out; omega) W3.heap.size (.slice none 0 0) sa cs (gz zs) HF.out w.heap.size aT aS aL aE W3 (by
        have e : restF (gz zs) 0 = 0 := by unfold restF; rw [feed0]; simp
        rw [e]; unfold Own; exact World.ownsRow_nil _ _ _ _) SS3.out (fun i hi => by rw [Nat.zero_add]) (HER.out.below HB3.out) HB3.out.size)
      rw [feed0, Nat.zero_add, HT3.out, HX3.out, HM3.out] at HIM
      go_wp2_with fail
      try rw [hW3]
      clear hW3
      refine HIM.out.mono ?_
      rintro e w4 ⟨b4, v4, fv4, l4, rfl, o4, fx4, hl4⟩
      obtain ⟨a4, c4, rfl, s4⟩ := own_seg8 o4
      obtain ⟨fa4, fc4, rfl, fs4⟩ := fx4.fxs
      obtain ⟨W5, hW5⟩ : ∃ W5, w4.alloc (.cells #[.slice a4 m3 c4, .int .i64 (T3 : Int), .int .i64 (X3 : Int)] 25) = W5 := ⟨_, rfl⟩
      have b5 : Below w4.heap.size w4 W5 := by rw [← hW5]; exact (Below.refl _ _).alloc (Nat.le_refl _) _
      have b45 := keepS b4 b5
      have K5 : Hid (Bx3 W5 w4.heap.size (.slice a4 m3 c4) (.int .i64 (T3 : Int)) (.int .i64 (X3 : Int))) := by rw [← hW5]; exact hid (Bx3.new _ _ _ _ _)
      have K35 := hid (K3.out.below b45 K3.out.lt)
      have S5 := hid (s4.below b5)
      have F5 := hid (fs4.below b5)
      have S35 := hid (S3.out.below b45)
      have F35 := hid (F3.out.below b45)
      have HL5 := hid hl4
      have HB5 := hid (keepS HB3.out b45)
      have SS5 := hid (SS3.out.below b45)
      have z4 := b4.size
      have z5 := b5.size
      have HCH := hid (chunksC sa cs zs a2 n2 c2 f2 W5 HZ.out HC1.out hcs2 SS5.out (fun b hb => by have := HBK.out b hb; omega) hnc2 hn2 (HS2.out.below HB5.out) HF2.out)
      clear b4 b5 b45 o4 fx4 s4 fs4 hl4 HIM K3 S3 F3 HB3 SS3 SS5
      go_wp2_with fail
      try rw [hW5]
      clear hW5
      refine HCH.out.mono ?_
      rintro e w6 ⟨v6, lc, rfl, ch6, hcat, hlc, b6⟩
      obtain ⟨y6, m6, c6, rfl⟩ := row_form9 ch6.row
      have K56 := hid (K5.out.below b6 K5.out.lt)
      have K36 := hid (K35.out.below b6 K35.out.lt)
      have S6 := hid (S5.out.below b6)
      have F6 := hid (F5.out.below b6)
      have S36 := hid (S35.out.below b6)
      have F36 := hid (F35.out.below b6)
      have HB6 := hid (keepS HB5.out b6)
      have CH6 := hid ch6
      have HCAT := hid hcat
      have HLC := hid hlc
      have z6 := b6.size
      clear b6 ch6 hcat hlc HCH K5 K35 S5 F5 S35 F35 HB5
      obtain ⟨W7, hW7⟩ : ∃ W7, w6.alloc (.cells #[.slice none 0 0, .int .i64 0, .int .i64 0] 25) = W7 := ⟨_, rfl⟩
      obtain ⟨W8, hW8⟩ : ∃ W8, W7.alloc (.cells #[] 41) = W8 := ⟨_, rfl⟩
      have b7 : Below w6.heap.size w6 W7 := by rw [← hW7]; exact (Below.refl _ _).alloc (Nat.le_refl _) _
      have b8 : Below W7.heap.size W7 W8 := by rw [← hW8]; exact (Below.refl _ _).alloc (Nat.le_refl _) _
      have zz7 : W7.heap.size = w6.heap.size + 1 := by rw [← hW7]; simp
      have zz8 : W8.heap.size = W7.heap.size + 1 := by rw [← hW8]; simp
      have HI0 : Hid (LcI w6 W8 (gz zs) lc 0 (.slice (some ⟨w6.heap.size + 1, 0, none⟩) 0 0)) := hid (by
        have k7 : Bx3 W7 w6.heap.size (.slice none 0 0) (.int .i64 0) (.int .i64 0) := by rw [← hW7]; exact Bx3.new _ _ _ _ _
        have e0 : restF (gz zs) 0 = 0 := by unfold restF; rw [feed0]; simp
        refine ⟨keepS b7 b8, by omega, ⟨.slice none 0 0, ?_, ?_⟩, fun i => ?_, ⟨[], ?_, ?_⟩⟩
        · rw [qAt_zero, feed0]; exact k7.below b8 k7.lt
        · rw [qAt_zero, e0]; unfold Own; exact World.ownsRow_nil _ _ _ _
        · rw [b8.frozen (p := ⟨w6.heap.size, i, none⟩) (show w6.heap.size < W7.heap.size by omega), ← hW7]; simp
        · have := own_litF W7 (w6.heap.size + 1) (by omega)
          rw [hW8, zz7] at this
          exact ⟨this.row, this.pay, fun i hi => by simp at hi⟩
        · rw [qAt_zero, feed0]; rfl)
      have HW7 := hid hW7
      have HW8 := hid hW8
      clear b7 b8 zz7 zz8 hW7 hW8
      go_wp2_with fail
      rw [HW7.out, HW8.out]
      clear HW7 HW8
      go_loopw [12, 13] (fun gv iv wr => ∃ j : Nat, j ≤ lc.length ∧ iv = .int .i64 (j : Int) ∧ LcI w6 wr (gz zs) lc j gv) (fun _ iv _ => lc.length - (intOf iv).toNat)
      case atStart => exact ⟨0, Nat.zero_le _, rfl, HI0.out⟩
      case round =>
        clear HI0
        obtain ⟨j, hj, rfl, hI⟩ := hrel
        by_cases hlt : j < lc.length
        · obtain ⟨bv, kb, ob⟩ := hI.bx
          obtain ⟨lg, hg, hlg⟩ := hI.gt
          have HFA := hid (flat_at lc j hlt)
          rw [HCAT.out] at HFA
          obtain ⟨gc, rfl⟩ : ∃ gc, y6 = some ⟨gc, 0, none⟩ := by
            rcases CH6.out.row.2 with ⟨e, e0⟩ | ⟨g, cap, cur, e, _⟩
            · omega
            · injection e with e _ _; exact ⟨g, e⟩
          have hm6 : m6 = lc.length := by
            rcases CH6.out.row.2 with ⟨e, e0⟩ | ⟨g, cap, cur, e, _⟩
            · omega
            · injection e
          subst hm6
          have hgc : gc < w6.heap.size := (World.ownsRow.lt CH6.out.row gc rfl).2
          have hcell : w6.cell? ⟨gc, j, none⟩ = some (lc[j]).1 := by
            rw [CH6.out.row.cellAt j (by omega)]; simp [hlt]
          obtain ⟨ac, cc, ec, sc, _, _, _⟩ := own_form2 (CH6.out.pay (lc[j]) (List.getElem_mem hlt))
          rw [ec] at hcell
          have hb4 : Byt (gz (lc[j]).2) := fun i => by
            by_cases hi : i < (lc[j]).2.length
            · rw [HFA.out.2 i hi]; exact HF.out _
            · have e : gz (lc[j]).2 i = 0 := by simp [gz, List.getD, List.getElem?_eq_none (show (lc[j]).2.length ≤ i by omega)]
              rw [e]; omega
          have hq5 : qAt lc j + (lc[j]).2.length ≤ 5000 := by have := HFA.out.1; have := HZ.out; omega
          have HST : Hid (∀ w' : World, Below wr.heap.size wr w' → Calls Tryd.prog 6 #[.agg #[bv, .int .i64 ((feedF (gz zs) (qAt lc j) 0).2.1 : Nat), .int .i64 ((feedF (gz zs) (qAt lc j) 0).1 : Nat)], .slice ac (lc[j]).2.length cc] w' fun e w2 => Below w'.heap.size w' w2 ∧ ∃ v fv l, e = .returned (.tuple #[.agg #[v, .int .i64 ((feedF (gz zs) (qAt lc (j + 1)) 0).2.1 : Nat), .int .i64 ((feedF (gz zs) (qAt lc (j + 1)) 0).1 : Nat)], fv]) ∧ Own w2 w'.heap.size v (payl (shF (gz zs) (feedF (gz zs) (qAt lc (j + 1)) 0).2.1) (restF (gz zs) (qAt lc (j + 1)))) ∧ FxR w2 w'.heap.size fv l ∧ (feedF (gz zs) (qAt lc (j + 1)) 0).2.2 = (feedF (gz zs) (qAt lc j) 0).2.2 ++ l.map prFx) := hid (fun w' hb => by
            rw [qAt_succ lc j hlt]
            exact feedStepC (gz zs) HF.out (qAt lc j) (lc[j]).2.length hq5 (w6.heap.size + 1) bv ac cc (gz (lc[j]).2) hb4 w.heap.size aT aS aL aE w' (ob.kept hb (fun k hk => (World.ownsRow.lt ob k hk).2)) ((sc.below hI.xb).below hb) HFA.out.2 (HER.out.below (HB6.out.trans ((hI.xb.mono (by have := HB6.out.size; omega)).trans (hb.mono (by have := HB6.out.size; have := hI.xb.size; omega))))) (by have := HB6.out.size; have := hI.xb.size; have := hb.size; omega))
          obtain ⟨ab, cb, rfl, _⟩ := own_seg8 ob
          have HI := hid hI
          have HG := hid hg
          have HLG := hid hlg
          have hRS : restF (gz zs) (qAt lc (j + 1)) ≤ 4020 := by
            unfold restF
            split
            · exact rest_short (gz zs) _ (qAt lc (j + 1) + 1) 0 (by omega) (Nat.zero_le _) (by assumption)
            · omega
          obtain ⟨m0, hm0⟩ : ∃ m0, restF (gz zs) (qAt lc j) = m0 := ⟨_, rfl⟩
          obtain ⟨T0, hT0⟩ : ∃ T0, (feedF (gz zs) (qAt lc j) 0).2.1 = T0 := ⟨_, rfl⟩
          obtain ⟨X0, hX0⟩ : ∃ X0, (feedF (gz zs) (qAt lc j) 0).1 = X0 := ⟨_, rfl⟩
          obtain ⟨m1, hm1⟩ : ∃ m1, restF (gz zs) (qAt lc (j + 1)) = m1 := ⟨_, rfl⟩
          obtain ⟨T1, hT1⟩ : ∃ T1, (feedF (gz zs) (qAt lc (j + 1)) 0).2.1 = T1 := ⟨_, rfl⟩
          obtain ⟨X1, hX1⟩ : ∃ X1, (feedF (gz zs) (qAt lc (j + 1)) 0).1 = X1 := ⟨_, rfl⟩
          obtain ⟨nj, hnj⟩ : ∃ nj, (lc[j]).2.length = nj := ⟨_, rfl⟩
          rw [hT0, hX0, hnj, hm1, hT1, hX1, hm0] at HST
          rw [hT0, hX0, hm0] at kb
          rw [hnj] at hcell
          rw [hm1] at hRS
          have HM1 := hid hm1
          have HT1 := hid hT1
          have HX1 := hid hX1
          have x4 := (hI.xb.cell (p := ⟨gc, j, none⟩) hgc).trans hcell
          obtain ⟨x0, x1, x2⟩ := kb
          have dM : decide ((4020 : Int) < (m1 : Int)) = false := by simp; omega
          have HRS := hid hRS
          have i1 : (0 : Int) ≤ (j : Int) := Int.natCast_nonneg _
          have i2 : (j : Int) < (lc.length : Int) := by omega
          have hlt6 := hI.lt
          clear hI hg hlg ob hm0 hT0 hX0 hm1 hT1 hX1 hnj hcell sc hb4 hq5 ec HFA hRS
          go_wp2_with fail
          refine wp_region_held_drew (S := fun w' => (w'.cell? ⟨w6.heap.size, 0, none⟩ = some (.slice ab m0 cb) ∧ w'.cell? ⟨w6.heap.size, 1, none⟩ = some (.int .i64 (T0 : Int)) ∧ w'.cell? ⟨w6.heap.size, 2, none⟩ = some (.int .i64 (X0 : Int))) ∧ w'.cell? ⟨gc, j, none⟩ = some (.slice ac nj cc)) (by kernel_rfl) ⟨⟨x0, x1, x2⟩, x4⟩ (fun hHeld => ?_)
          refine take1 (i := 0) (d := some 50) (v := ?_) (by kernel_rfl) (by kernel_rfl) (by kernel_rfl) (by kernel_rfl) (fun _ _ _ h => h) ?_ hHeld ?_
          rotate_left
          · (intro o ho; simp only [List.getElem?_toArray, List.getElem?_cons_succ, List.getElem?_cons_zero, Option.some.injEq] at ho; subst ho; refine Or.inl ⟨by rfl, ?_⟩; intro w hSw; (try dsimp only at hSw); go_simp; try with_reducible rfl)
          try simp only [Act.put, List.setIfInBounds_toArray, List.set_cons_zero, List.set_cons_succ]
          refine take1 (i := 1) (d := some 51) (v := ?_) (by kernel_rfl) (by kernel_rfl) (by kernel_rfl) (by kernel_rfl) (fun _ _ _ h => h) ?_ hHeld ?_
          rotate_left
          · (intro o ho; simp only [List.getElem?_toArray, List.getElem?_cons_succ, List.getElem?_cons_zero, Option.some.injEq] at ho; subst ho; refine Or.inl ⟨by rfl, ?_⟩; intro w hSw; (try dsimp only at hSw); go_simp; try with_reducible rfl)
          try simp only [Act.put, List.setIfInBounds_toArray, List.set_cons_zero, List.set_cons_succ]
          refine take1 (i := 2) (d := some 52) (v := ?_) (by kernel_rfl) (by kernel_rfl) (by kernel_rfl) (by kernel_rfl) (fun _ _ _ h => h) ?_ hHeld ?_
          rotate_left
          · (intro o ho; simp only [List.getElem?_toArray, List.getElem?_cons_succ, List.getElem?_cons_zero, Option.some.injEq] at ho; subst ho; refine Or.inl ⟨by rfl, ?_⟩; intro w hSw; (try dsimp only at hSw); go_simp; try with_reducible rfl)
          try simp only [Act.put, List.setIfInBounds_toArray, List.set_cons_zero, List.set_cons_succ]
          refine take1 (i := 3) (d := some 53) (v := ?_) (by kernel_rfl) (by kernel_rfl) (by kernel_rfl) (by kernel_rfl) (fun _ _ _ h => h) ?_ hHeld ?_
          rotate_left
          · (intro o ho; simp only [List.getElem?_toArray, List.getElem?_cons_succ, List.getElem?_cons_zero, Option.some.injEq] at ho; subst ho; refine Or.inl ⟨by rfl, ?_⟩; intro w hSw; (try dsimp only at hSw); go_simp; try with_reducible rfl)
          try simp only [Act.put, List.setIfInBounds_toArray, List.set_cons_zero, List.set_cons_succ]
          refine take1 (i := 4) (d := some 54) (v := ?_) (by kernel_rfl) (by kernel_rfl) (by kernel_rfl) (by kernel_rfl) (fun _ _ _ h => h) ?_ hHeld ?_
          rotate_left
          · (intro o ho; simp only [List.getElem?_toArray, List.getElem?_cons_succ, List.getElem?_cons_zero, Option.some.injEq] at ho; subst ho; refine Or.inl ⟨by rfl, ?_⟩; intro w hSw; (try dsimp only at hSw); go_simp; try with_reducible rfl)
          try simp only [Act.put, List.setIfInBounds_toArray, List.set_cons_zero, List.set_cons_succ]
          refine ready2 (i := 5) (j := 9) (d := some 55) (d' := some 14) (by kernel_rfl) (by kernel_rfl) (by kernel_rfl) ?_ ?_
          · intro o ho hod K hK; simp only [List.getElem?_toArray, List.getElem?_cons_succ, List.getElem?_cons_zero, Option.some.injEq] at ho; subst ho
            go_simp
            refine (HST.out wr.drew ((Below.refl _ _).drew)).mono ?_
            rintro e w9 ⟨b9, v9, fv9, l9, rfl, o9, fx9, hl9⟩
            have b90 : Below wr.heap.size wr w9 := ⟨b9.os, b9.tape, b9.output, b9.size, b9.block⟩
            obtain ⟨av, cv, rfl, _⟩ := own_seg8 o9
            obtain ⟨fa, fn, fc, rfl⟩ := row_form9 fx9.row
            have S9 : Hid (∀ w' : World, Below wr.heap.size wr w' → (w'.cell? ⟨w6.heap.size, 0, none⟩ = some (.slice ab m0 cb) ∧ w'.cell? ⟨w6.heap.size, 1, none⟩ = some (.int .i64 (T0 : Int)) ∧ w'.cell? ⟨w6.heap.size, 2, none⟩ = some (.int .i64 (X0 : Int))) ∧ w'.cell? ⟨gc, j, none⟩ = some (.slice ac nj cc)) := hid (fun w' hb => ⟨⟨(hb.cell (p := ⟨w6.heap.size, 0, none⟩) (show w6.heap.size < wr.heap.size by omega)).trans x0, (hb.cell (p := ⟨w6.heap.size, 1, none⟩) (show w6.heap.size < wr.heap.size by omega)).trans x1, (hb.cell (p := ⟨w6.heap.size, 2, none⟩) (show w6.heap.size < wr.heap.size by omega)).trans x2⟩, (hb.cell (p := ⟨gc, j, none⟩) (show gc < wr.heap.size by omega)).trans x4⟩)
            refine hK.out _ _ (S9.out w9 b90) (fun hHeld => ?_)
            clear hK K
            try simp only [Act.put, List.setIfInBounds_toArray, List.set_cons_zero, List.set_cons_succ]
            refine take1 (i := 6) (d := some 49) (v := ?_) (by kernel_rfl) (by kernel_rfl) (by kernel_rfl) (by kernel_rfl) (fun _ _ _ h => h) ?_ hHeld ?_
            rotate_left
            · (intro o ho; simp only [List.getElem?_toArray, List.getElem?_cons_succ, List.getElem?_cons_zero, Option.some.injEq] at ho; subst ho; refine Or.inl ⟨by rfl, ?_⟩; intro w hSw; (try dsimp only at hSw); go_simp; try with_reducible rfl)
            try simp only [Act.put, List.setIfInBounds_toArray, List.set_cons_zero, List.set_cons_succ]
            refine take1 (i := 7) (d := some 56) (v := ?_) (by kernel_rfl) (by kernel_rfl) (by kernel_rfl) (by kernel_rfl) (fun _ _ _ h => h) ?_ hHeld ?_
            rotate_left
            · (intro o ho; simp only [List.getElem?_toArray, List.getElem?_cons_succ, List.getElem?_cons_zero, Option.some.injEq] at ho; subst ho; refine Or.inl ⟨by rfl, ?_⟩; intro w hSw; (try dsimp only at hSw); go_simp; try with_reducible rfl)
            try simp only [Act.put, List.setIfInBounds_toArray, List.set_cons_zero, List.set_cons_succ]
            refine take1 (i := 8) (d := some 57) (v := ?_) (by kernel_rfl) (by kernel_rfl) (by kernel_rfl) (by kernel_rfl) (fun _ _ _ h => h) ?_ hHeld ?_
            rotate_left
            · (intro o ho; simp only [List.getElem?_toArray, List.getElem?_cons_succ, List.getElem?_cons_zero, Option.some.injEq] at ho; subst ho; refine Or.inl ⟨by rfl, ?_⟩; intro w hSw; (try dsimp only at hSw); go_simp; try with_reducible rfl)
            try simp only [Act.put, List.setIfInBounds_toArray, List.set_cons_zero, List.set_cons_succ]
            refine call1 (i := 9) (d := some 14) (by kernel_rfl) (by kernel_rfl) ?_
            intro o ho hod K hK; simp only [List.getElem?_toArray, List.getElem?_cons_succ, List.getElem?_cons_zero, Option.some.injEq] at ho; subst ho
            go_simp
            refine hK.out _ _ (S9.out _ (b90.alloc b90.size _)) (fun hHeld => ?_)
            clear hK K
            try simp only [Act.put, List.setIfInBounds_toArray, List.set_cons_zero, List.set_cons_succ]
            refine call1 (i := 10) (d := none) (by kernel_rfl) (by kernel_rfl) ?_
            intro o ho hod K hK; simp only [List.getElem?_toArray, List.getElem?_cons_succ, List.getElem?_cons_zero, Option.some.injEq] at ho; subst ho
            go_simp
            have ZB : Hid (Below wr.heap.size wr (w9.alloc (.cells #[.slice av m1 cv, .int .i64 (T1 : Int), .int .i64 (X1 : Int)] 25))) := hid (b90.alloc b90.size _)
            have ZK : Hid (Bx3 (w9.alloc (.cells #[.slice av m1 cv, .int .i64 (T1 : Int), .int .i64 (X1 : Int)] 25)) w9.heap.size (.slice av m1 cv) (.int .i64 (T1 : Int)) (.int .i64 (X1 : Int))) := hid (Bx3.new _ _ _ _ _)
            have ZO : Hid (Own (w9.alloc (.cells #[.slice av m1 cv, .int .i64 (T1 : Int), .int .i64 (X1 : Int)] 25)) wr.heap.size (.slice av m1 cv) (payl (shF (gz zs) T1) m1)) := hid (World.ownsRow.alloc o9 _)
            have ZF : Hid (FxR (w9.alloc (.cells #[.slice av m1 cv, .int .i64 (T1 : Int), .int .i64 (X1 : Int)] 25)) wr.heap.size (.slice fa fn fc) l9) := hid (fx9.below ((Below.refl _ _).alloc (Nat.le_refl _) _))
            have hbt : wr.heap.size ≤ w9.heap.size := b90.size
            obtain ⟨BT, hBT⟩ : ∃ BT, w9.heap.size = BT := ⟨_, rfl⟩
            obtain ⟨Z, hZ⟩ : ∃ Z, w9.alloc (.cells #[.slice av m1 cv, .int .i64 (T1 : Int), .int .i64 (X1 : Int)] 25) = Z := ⟨_, rfl⟩
            rw [hZ] at ZB ZK ZO ZF ⊢
            rw [hBT] at ZK hbt
            refine hK.out _ _ (S9.out Z ZB.out) (fun hHeld => ?_)
            clear hK K
            try simp only [Act.put, List.setIfInBounds_toArray, List.set_cons_zero, List.set_cons_succ]
            refine take1 (i := 11) (d := some 15) (v := ?_) (by kernel_rfl) (by kernel_rfl) (by kernel_rfl) (by kernel_rfl) (fun _ _ _ h => h) ?_ hHeld ?_
            rotate_left
            · (intro o ho; simp only [List.getElem?_toArray, List.getElem?_cons_succ, List.getElem?_cons_zero, Option.some.injEq] at ho; subst ho; refine Or.inl ⟨by rfl, ?_⟩; intro w hSw; (try dsimp only at hSw); go_simp; try with_reducible rfl)
            try simp only [Act.put, List.setIfInBounds_toArray, List.set_cons_zero, List.set_cons_succ]
            refine wpAnyH_done (by kernel_rfl) ?_ _
            rw [hBT]
            have HL9 := hid hl9
            clear hHeld hZ hBT b9 b90 o9 fx9 hl9
            have zb := ZB.out.size
            obtain ⟨k0, k1, k2⟩ := ZK.out
            have hS := S9.out Z ZB.out
            obtain ⟨⟨y0, y1, y2⟩, _⟩ := hS
            have fzz := fun i => (ZB.out.frozen (p := ⟨w6.heap.size, i, none⟩) (show w6.heap.size < wr.heap.size by omega)).trans (HI.out.fz i)
            have g0 := fzz 0
            have g1 := fzz 1
            have g2 := fzz 2
            clear fzz
            have G3 := grown3 Z w6.heap.size (.slice av m1 cv) (.int .i64 (T1 : Int)) (.int .i64 (X1 : Int))
            have e3 := box3E (.slice av m1 cv) (.int .i64 (T1 : Int)) (.int .i64 (X1 : Int)) y0 y1 y2
            have fz3 : ∀ i, (((Z.setCell ⟨w6.heap.size, 0, none⟩ (.slice av m1 cv)).setCell ⟨w6.heap.size, 1, none⟩ (.int .i64 (T1 : Int))).setCell ⟨w6.heap.size, 2, none⟩ (.int .i64 (X1 : Int))).frozen? ⟨w6.heap.size, i, none⟩ = false := fun i => by
              rw [World.frozen?_setCell, World.frozen?_setCell, World.frozen?_setCell]
              exact (ZB.out.frozen (p := ⟨w6.heap.size, i, none⟩) (show w6.heap.size < wr.heap.size by omega)).trans (HI.out.fz i)
            obtain ⟨Z', hZ'⟩ : ∃ Z', ((Z.setCell ⟨w6.heap.size, 0, none⟩ (.slice av m1 cv)).setCell ⟨w6.heap.size, 1, none⟩ (.int .i64 (T1 : Int))).setCell ⟨w6.heap.size, 2, none⟩ (.int .i64 (X1 : Int)) = Z' := ⟨_, rfl⟩
            rw [hZ'] at G3 e3 fz3
            have z3' := G3.size
            have GT3 := hid ((HG.out.below ZB.out).kept G3 (fun k e => by injection e with e; omega))
            have FX3 := hid (ZF.out.kept G3 (fun k e => by injection e with e; omega))
            have OW3 := hid (ZO.out.gr G3 (fun g e1 e2 => by have := (World.ownsRow.lt ZO.out g e1).1; injection e2 with e2; omega))
            have E3 := hid e3
            have FZ3 := hid fz3
            have GG3 := hid G3
            have HZ3 := hid hZ'
            have hlg5 : Hid (lg.length ≤ 5000 ∧ l9.length ≤ 5000) := hid (by
              have hb := fx_bnd (l := lg ++ l9) HF.out (show qAt lc (j + 1) ≤ 5000 by
                have := flat_at lc j hlt
                rw [HCAT.out] at this
                rw [qAt_succ lc j hlt]
                have h5 := HZ.out
                omega) (by rw [List.map_append, HLG.out, ← HL9.out])
              have := hb.1
              rw [List.length_append] at this
              omega)
            clear e3 fz3 G3 hZ'
            go_wp2_with (at_builtin; (try rw [HZ3.out]); refine wpList_app_fx rfl _ _ rfl (w6.heap.size + 1) _ _ _ rfl GT3.out.row wr.heap.size (.slice fa fn fc) l9 rfl FX3.out ?c3 ?c4 ?c5 ?_)
            case c3 => have := hlg5.out; unfold maxLen; omega
            case c4 => have := hlg5.out; omega
            case c5 => omega
            intro v10 w10 hown10 hgr10 hloc10
            have hgvE : ∀ k, u12.ownBlock = some k → w6.heap.size + 1 ≤ k ∧ k < wr.heap.size := fun k hk => World.ownsRow.lt HG.out.row k hk
            have GT10 := hid (GT3.out.app2 (E := wr.heap.size) (fun k hk => (hgvE k hk).2) (fun i hi k hk => (World.ownsRow.lt (HG.out.pay i hi) k hk).2) (by omega) FX3.out hgr10 hown10 (hloc10.imp id (fun e => ⟨_, e, Nat.le_refl _⟩)))
            have z10 := hgr10.size
            have cD := fun i => World.cell?_of_block (a := ⟨w6.heap.size, i, none⟩) (hgr10.block w6.heap.size (by omega) (fun e => by have := (hgvE _ e.symm).1; omega))
            have fD := fun i => (World.frozen?_of_block (a := ⟨w6.heap.size, i, none⟩) (hgr10.block w6.heap.size (by omega) (fun e => by have := (hgvE _ e.symm).1; omega))).trans (FZ3.out i)
            have KD : Hid (Bx3 w10 w6.heap.size (.slice av m1 cv) (.int .i64 (T1 : Int)) (.int .i64 (X1 : Int))) := hid ⟨(cD 0).trans E3.out.1, (cD 1).trans E3.out.2.1, (cD 2).trans E3.out.2.2⟩
            have OD := hid (own_weak (OW3.out.gr hgr10 (fun g e1 e2 => by have := (World.ownsRow.lt ZO.out g e1).1; have := (hgvE _ e2.symm).2; omega)) (show w6.heap.size + 1 ≤ wr.heap.size by omega))
            have XB : Hid (Below w6.heap.size w6 w10) := hid (((HI.out.xb.trans (ZB.out.mono HI.out.xb.size)).grown GG3.out (by have := HI.out.xb.size; omega) (fun k e => by injection e with e; omega)).grown hgr10 (by have := HI.out.xb.size; omega) (fun k e => by have := (hgvE k e).1; omega))
            have HN10 : Hid (LcI w6 w10 (gz zs) lc (j + 1) v10) := hid ⟨XB.out, by omega, ⟨_, by rw [HT1.out, HX1.out]; exact KD.out, by rw [HT1.out, HM1.out]; exact OD.out⟩, fD, ⟨lg ++ l9, GT10.out, by rw [List.map_append, HLG.out, ← HL9.out]⟩⟩
            have d0 := KD.out.1
            have hj5 : Hid (lc.length ≤ 6000) := HLC
            have hjj : j ≤ 6000 := by have := hj5.out; omega
            clear hown10 hgr10 hloc10 cD fD y0 y1 y2 g0 g1 g2 k0 k1 k2 GT3 FX3 OW3 E3 FZ3 GG3 HZ3 GT10 OD XB KD
            go_wp2_with fail
            go_roundw
            case rel => exact ⟨j + 1, hlt, by go_num, HN10.out⟩
            case measure => simp [intOf]; omega
          · intro o ho hod K hK; simp only [List.getElem?_toArray, List.getElem?_cons_succ, List.getElem?_cons_zero, Option.some.injEq] at ho; subst ho
            go_simp
            have b10 : Below wr.heap.size wr ((wr.alloc (.cells #[.slice none 0 0, .int .i64 0, .int .i64 0] 25)).drew) := ((Below.refl _ _).alloc (Nat.le_refl _) _).drew
            have q0 : ((wr.alloc (.cells #[.slice none 0 0, .int .i64 0, .int .i64 0] 25)).drew).cell? ⟨wr.heap.size, 0, none⟩ = some (.slice none 0 0) := by simp
            have q1 : ((wr.alloc (.cells #[.slice none 0 0, .int .i64 0, .int .i64 0] 25)).drew).cell? ⟨wr.heap.size, 1, none⟩ = some (.int .i64 0) := by simp
            have q2 : ((wr.alloc (.cells #[.slice none 0 0, .int .i64 0, .int .i64 0] 25)).drew).cell? ⟨wr.heap.size, 2, none⟩ = some (.int .i64 0) := by simp
            have qf : ∀ i, ((wr.alloc (.cells #[.slice none 0 0, .int .i64 0, .int .i64 0] 25)).drew).frozen? ⟨wr.heap.size, i, none⟩ = false := fun i => by simp
            have zv : Hid (((wr.alloc (.cells #[.slice none 0 0, .int .i64 0, .int .i64 0] 25)).drew).heap.size = wr.heap.size + 1) := hid (by simp)
            have S9 : Hid (∀ w' : World, Below wr.heap.size wr w' → (w'.cell? ⟨w6.heap.size, 0, none⟩ = some (.slice ab m0 cb) ∧ w'.cell? ⟨w6.heap.size, 1, none⟩ = some (.int .i64 (T0 : Int)) ∧ w'.cell? ⟨w6.heap.size, 2, none⟩ = some (.int .i64 (X0 : Int))) ∧ w'.cell? ⟨gc, j, none⟩ = some (.slice ac nj cc)) := hid (fun w' hb => ⟨⟨(hb.cell (p := ⟨w6.heap.size, 0, none⟩) (show w6.heap.size < wr.heap.size by omega)).trans x0, (hb.cell (p := ⟨w6.heap.size, 1, none⟩) (show w6.heap.size < wr.heap.size by omega)).trans x1, (hb.cell (p := ⟨w6.heap.size, 2, none⟩) (show w6.heap.size < wr.heap.size by omega)).trans x2⟩, (hb.cell (p := ⟨gc, j, none⟩) (show gc < wr.heap.size by omega)).trans x4⟩)
            refine hK.out _ _ (S9.out _ b10) (fun hHeld => ?_)
            clear hK K
            try simp only [Act.put, List.setIfInBounds_toArray, List.set_cons_zero, List.set_cons_succ]
            obtain ⟨V, hV⟩ : ∃ V, (wr.alloc (.cells #[.slice none 0 0, .int .i64 0, .int .i64 0] 25)).drew = V := ⟨_, rfl⟩
            rw [hV] at b10 q0 q1 q2 qf zv hHeld ⊢
            have HQF := hid qf
            clear hV qf
            refine call1 (i := 5) (d := some 55) (by kernel_rfl) (by kernel_rfl) ?_
            intro o ho hod K hK; simp only [List.getElem?_toArray, List.getElem?_cons_succ, List.getElem?_cons_zero, Option.some.injEq] at ho; subst ho
            go_simp
            refine (HST.out V b10).mono ?_
            rintro e w9 ⟨b9, v9, fv9, l9, rfl, o9, fx9, hl9⟩
            obtain ⟨av, cv, rfl, _⟩ := own_seg8 o9
            obtain ⟨fa, fn, fc, rfl⟩ := row_form9 fx9.row
            have hv1 := zv.out
            have b90 : Below wr.heap.size wr w9 := b10.trans (b9.mono (by omega))
            have zt : wr.heap.size < V.heap.size := by omega
            have p0 := (b9.cell (p := ⟨wr.heap.size, 0, none⟩) zt).trans q0
            have p1 := (b9.cell (p := ⟨wr.heap.size, 1, none⟩) zt).trans q1
            have p2 := (b9.cell (p := ⟨wr.heap.size, 2, none⟩) zt).trans q2
            have f0 := (b9.frozen (p := ⟨wr.heap.size, 0, none⟩) zt).trans (HQF.out 0)
            have f1' := (b9.frozen (p := ⟨wr.heap.size, 1, none⟩) zt).trans (HQF.out 1)
            have f2' := (b9.frozen (p := ⟨wr.heap.size, 2, none⟩) zt).trans (HQF.out 2)
            have HHV := hid hv1
            clear hv1
            refine hK.out _ _ (S9.out w9 b90) (fun hHeld => ?_)
            clear hK K
            try simp only [Act.put, List.setIfInBounds_toArray, List.set_cons_zero, List.set_cons_succ]
            refine take1 (i := 6) (d := some 49) (v := ?_) (by kernel_rfl) (by kernel_rfl) (by kernel_rfl) (by kernel_rfl) (fun _ _ _ h => h) ?_ hHeld ?_
            rotate_left
            · (intro o ho; simp only [List.getElem?_toArray, List.getElem?_cons_succ, List.getElem?_cons_zero, Option.some.injEq] at ho; subst ho; refine Or.inl ⟨by rfl, ?_⟩; intro w hSw; (try dsimp only at hSw); go_simp; try with_reducible rfl)
            try simp only [Act.put, List.setIfInBounds_toArray, List.set_cons_zero, List.set_cons_succ]
            refine take1 (i := 7) (d := some 56) (v := ?_) (by kernel_rfl) (by kernel_rfl) (by kernel_rfl) (by kernel_rfl) (fun _ _ _ h => h) ?_ hHeld ?_
            rotate_left
            · (intro o ho; simp only [List.getElem?_toArray, List.getElem?_cons_succ, List.getElem?_cons_zero, Option.some.injEq] at ho; subst ho; refine Or.inl ⟨by rfl, ?_⟩; intro w hSw; (try dsimp only at hSw); go_simp; try with_reducible rfl)
            try simp only [Act.put, List.setIfInBounds_toArray, List.set_cons_zero, List.set_cons_succ]
            refine take1 (i := 8) (d := some 57) (v := ?_) (by kernel_rfl) (by kernel_rfl) (by kernel_rfl) (by kernel_rfl) (fun _ _ _ h => h) ?_ hHeld ?_
            rotate_left
            · (intro o ho; simp only [List.getElem?_toArray, List.getElem?_cons_succ, List.getElem?_cons_zero, Option.some.injEq] at ho; subst ho; refine Or.inl ⟨by rfl, ?_⟩; intro w hSw; (try dsimp only at hSw); go_simp; try with_reducible rfl)
            try simp only [Act.put, List.setIfInBounds_toArray, List.set_cons_zero, List.set_cons_succ]
            refine call1 (i := 10) (d := none) (by kernel_rfl) (by kernel_rfl) ?_
            intro o ho hod K hK; simp only [List.getElem?_toArray, List.getElem?_cons_succ, List.getElem?_cons_zero, Option.some.injEq] at ho; subst ho
            go_simp
            have G3 := grown3 w9 wr.heap.size (.slice av m1 cv) (.int .i64 (T1 : Int)) (.int .i64 (X1 : Int))
            have ZK : Hid (Bx3 (((w9.setCell ⟨wr.heap.size, 0, none⟩ (.slice av m1 cv)).setCell ⟨wr.heap.size, 1, none⟩ (.int .i64 (T1 : Int))).setCell ⟨wr.heap.size, 2, none⟩ (.int .i64 (X1 : Int))) wr.heap.size (.slice av m1 cv) (.int .i64 (T1 : Int)) (.int .i64 (X1 : Int))) := hid (box3E (.slice av m1 cv) (.int .i64 (T1 : Int)) (.int .i64 (X1 : Int)) p0 p1 p2)
            obtain ⟨Z, hZ⟩ : ∃ Z, ((w9.setCell ⟨wr.heap.size, 0, none⟩ (.slice av m1 cv)).setCell ⟨wr.heap.size, 1, none⟩ (.int .i64 (T1 : Int))).setCell ⟨wr.heap.size, 2, none⟩ (.int .i64 (X1 : Int)) = Z := ⟨_, rfl⟩
            rw [hZ] at G3 ZK ⊢
            have ZB : Hid (Below wr.heap.size wr Z) := hid (b90.grown G3 b90.size (fun k e => by injection e with e; omega))
            have ZO : Hid (Own Z wr.heap.size (.slice av m1 cv) (payl (shF (gz zs) T1) m1)) := hid ((own_weak o9 (by have := HHV.out; omega)).gr G3 (fun g e1 e2 => by have := (World.ownsRow.lt o9 g e1).1; have := HHV.out; injection e2 with e2; omega))
            have ZF : Hid (FxR Z wr.heap.size (.slice fa fn fc) l9) := hid ((fx9.kept G3 (fun k e => by have := HHV.out; injection e with e; omega)).weak (by have := HHV.out; omega))
            obtain ⟨BT, hBT⟩ : ∃ BT, wr.heap.size = BT := ⟨_, rfl⟩
            have hbt : wr.heap.size ≤ BT := by omega
            have ZK' : Hid (Bx3 Z BT (.slice av m1 cv) (.int .i64 (T1 : Int)) (.int .i64 (X1 : Int))) := by rw [← hBT]; exact ZK
            clear ZK
            have ZK := ZK'
            clear ZK'
            refine hK.out _ _ (S9.out Z ZB.out) (fun hHeld => ?_)
            clear hK K
            try simp only [Act.put, List.setIfInBounds_toArray, List.set_cons_zero, List.set_cons_succ]
            refine take1 (i := 11) (d := some 15) (v := ?_) (by kernel_rfl) (by kernel_rfl) (by kernel_rfl) (by kernel_rfl) (fun _ _ _ h => h) ?_ hHeld ?_
            rotate_left
            · (intro o ho; simp only [List.getElem?_toArray, List.getElem?_cons_succ, List.getElem?_cons_zero, Option.some.injEq] at ho; subst ho; refine Or.inl ⟨by rfl, ?_⟩; intro w hSw; (try dsimp only at hSw); go_simp; try with_reducible rfl)
            try simp only [Act.put, List.setIfInBounds_toArray, List.set_cons_zero, List.set_cons_succ]
            refine wpAnyH_done (by kernel_rfl) ?_ _
            have HBT := hid hBT
            have HL9 := hid hl9
            clear hHeld hZ hBT b9 b90 b10 o9 fx9 hl9 G3 p0 p1 p2 f0 f1' f2' q0 q1 q2 zt
            rw [HBT.out]
            have zb := ZB.out.size
            obtain ⟨k0, k1, k2⟩ := ZK.out
            have hS := S9.out Z ZB.out
            obtain ⟨⟨y0, y1, y2⟩, _⟩ := hS
            have fzz := fun i => (ZB.out.frozen (p := ⟨w6.heap.size, i, none⟩) (show w6.heap.size < wr.heap.size by omega)).trans (HI.out.fz i)
            have g0 := fzz 0
            have g1 := fzz 1
            have g2 := fzz 2
            clear fzz
            have G3 := grown3 Z w6.heap.size (.slice av m1 cv) (.int .i64 (T1 : Int)) (.int .i64 (X1 : Int))
            have e3 := box3E (.slice av m1 cv) (.int .i64 (T1 : Int)) (.int .i64 (X1 : Int)) y0 y1 y2
            have fz3 : ∀ i, (((Z.setCell ⟨w6.heap.size, 0, none⟩ (.slice av m1 cv)).setCell ⟨w6.heap.size, 1, none⟩ (.int .i64 (T1 : Int))).setCell ⟨w6.heap.size, 2, none⟩ (.int .i64 (X1 : Int))).frozen? ⟨w6.heap.size, i, none⟩ = false := fun i => by
              rw [World.frozen?_setCell, World.frozen?_setCell, World.frozen?_setCell]
              exact (ZB.out.frozen (p := ⟨w6.heap.size, i, none⟩) (show w6.heap.size < wr.heap.size by omega)).trans (HI.out.fz i)
            obtain ⟨Z', hZ'⟩ : ∃ Z', ((Z.setCell ⟨w6.heap.size, 0, none⟩ (.slice av m1 cv)).setCell ⟨w6.heap.size, 1, none⟩ (.int .i64 (T1 : Int))).setCell ⟨w6.heap.size, 2, none⟩ (.int .i64 (X1 : Int)) = Z' := ⟨_, rfl⟩
            rw [hZ'] at G3 e3 fz3
            have z3' := G3.size
            have GT3 := hid ((HG.out.below ZB.out).kept G3 (fun k e => by injection e with e; omega))
            have FX3 := hid (ZF.out.kept G3 (fun k e => by injection e with e; omega))
            have OW3 := hid (ZO.out.gr G3 (fun g e1 e2 => by have := (World.ownsRow.lt ZO.out g e1).1; injection e2 with e2; omega))
            have E3 := hid e3
            have FZ3 := hid fz3
            have GG3 := hid G3
            have HZ3 := hid hZ'
            have hlg5 : Hid (lg.length ≤ 5000 ∧ l9.length ≤ 5000) := hid (by
              have hb := fx_bnd (l := lg ++ l9) HF.out (show qAt lc (j + 1) ≤ 5000 by
                have := flat_at lc j hlt
                rw [HCAT.out] at this
                rw [qAt_succ lc j hlt]
                have h5 := HZ.out
                omega) (by rw [List.map_append, HLG.out, ← HL9.out])
              have := hb.1
              rw [List.length_append] at this
              omega)
            clear e3 fz3 G3 hZ'
            go_wp2_with (at_builtin; (try rw [HZ3.out]); refine wpList_app_fx rfl _ _ rfl (w6.heap.size + 1) _ _ _ rfl GT3.out.row wr.heap.size (.slice fa fn fc) l9 rfl FX3.out ?c3 ?c4 ?c5 ?_)
            case c3 => have := hlg5.out; unfold maxLen; omega
            case c4 => have := hlg5.out; omega
            case c5 => omega
            intro v10 w10 hown10 hgr10 hloc10
            have hgvE : ∀ k, u12.ownBlock = some k → w6.heap.size + 1 ≤ k ∧ k < wr.heap.size := fun k hk => World.ownsRow.lt HG.out.row k hk
            have GT10 := hid (GT3.out.app2 (E := wr.heap.size) (fun k hk => (hgvE k hk).2) (fun i hi k hk => (World.ownsRow.lt (HG.out.pay i hi) k hk).2) (by omega) FX3.out hgr10 hown10 (hloc10.imp id (fun e => ⟨_, e, Nat.le_refl _⟩)))
            have z10 := hgr10.size
            have cD := fun i => World.cell?_of_block (a := ⟨w6.heap.size, i, none⟩) (hgr10.block w6.heap.size (by omega) (fun e => by have := (hgvE _ e.symm).1; omega))
            have fD := fun i => (World.frozen?_of_block (a := ⟨w6.heap.size, i, none⟩) (hgr10.block w6.heap.size (by omega) (fun e => by have := (hgvE _ e.symm).1; omega))).trans (FZ3.out i)
            have KD : Hid (Bx3 w10 w6.heap.size (.slice av m1 cv) (.int .i64 (T1 : Int)) (.int .i64 (X1 : Int))) := hid ⟨(cD 0).trans E3.out.1, (cD 1).trans E3.out.2.1, (cD 2).trans E3.out.2.2⟩
            have OD := hid (own_weak (OW3.out.gr hgr10 (fun g e1 e2 => by have := (World.ownsRow.lt ZO.out g e1).1; have := (hgvE _ e2.symm).2; omega)) (show w6.heap.size + 1 ≤ wr.heap.size by omega))
            have XB : Hid (Below w6.heap.size w6 w10) := hid (((HI.out.xb.trans (ZB.out.mono HI.out.xb.size)).grown GG3.out (by have := HI.out.xb.size; omega) (fun k e => by injection e with e; omega)).grown hgr10 (by have := HI.out.xb.size; omega) (fun k e => by have := (hgvE k e).1; omega))
            have HN10 : Hid (LcI w6 w10 (gz zs) lc (j + 1) v10) := hid ⟨XB.out, by omega, ⟨_, by rw [HT1.out, HX1.out]; exact KD.out, by rw [HT1.out, HM1.out]; exact OD.out⟩, fD, ⟨lg ++ l9, GT10.out, by rw [List.map_append, HLG.out, ← HL9.out]⟩⟩
            have d0 := KD.out.1
            have hj5 : Hid (lc.length ≤ 6000) := HLC
            have hjj : j ≤ 6000 := by have := hj5.out; omega
            clear hown10 hgr10 hloc10 cD fD y0 y1 y2 g0 g1 g2 k0 k1 k2 GT3 FX3 OW3 E3 FZ3 GG3 HZ3 GT10 OD XB KD
            go_wp2_with fail
            go_roundw
            case rel => exact ⟨j + 1, hlt, by go_num, HN10.out⟩
            case measure => simp [intOf]; omega
        · obtain rfl : j = lc.length := by omega
          have hm6 : m6 = lc.length := by
            rcases CH6.out.row.2 with ⟨e, e0⟩ | ⟨g, cap, cur, e, _⟩
            · injection e with _ e _; omega
            · injection e
          subst hm6
          obtain ⟨bv, kb, ob⟩ := hI.bx
          obtain ⟨lg, hg, hlg⟩ := hI.gt
          have hqa : qAt lc lc.length = zs.length := by rw [qAt_all, HCAT.out]
          rw [hqa, HT3.out, HX3.out] at kb
          rw [hqa, HT3.out, HM3.out] at ob
          rw [hqa] at hlg
          obtain ⟨ab, cb, rfl, sb⟩ := own_seg8 ob
          obtain ⟨ga, gcc, rfl, fsg⟩ := hg.fxs
          have hl4 : l4.map prFx = (feedF (gz zs) zs.length 0).2.2 := by have := HL5.out; simpa using this.symm
          have hbd4 := fx_bnd HF.out HZ.out hl4
          have hbdg := fx_bnd HF.out HZ.out hlg
          have XB := hid hI.xb
          have HQ1 := hid (sameFramesC fa4 fa3 fc4 fc3 l4 l3 wr (by omega) hbd4.2.1 (F6.out.below hI.xb) (F36.out.below hI.xb) (hl4.trans HL3.out.symm) hbd4.2.2)
          have HQ2 : Hid (∀ w' : World, Below wr.heap.size wr w' → Calls Tryd.prog 8 #[.slice ga lg.length gcc, .slice fa3 l3.length fc3] w' fun e w2 => e = .returned (.bool true) ∧ Below w'.heap.size w' w2) := hid (fun w' hb => sameFramesC ga fa3 gcc fc3 lg l3 w' (by omega) hbdg.2.1 (fsg.below hb) ((F36.out.below XB.out).below hb) (hlg.trans HL3.out.symm) hbdg.2.2)
          have KB := hid kb
          have SB := hid sb
          clear hI hg hlg ob hl4 hbd4 hbdg fsg hqa kb sb
          go_wp2_with fail
          refine HQ1.out.mono ?_
          rintro e wA ⟨rfl, bA⟩
          have HQ3 := hid (HQ2.out wA bA)
          have BA := hid bA
          clear bA HQ1 HQ2
          go_wp2_with fail
          refine HQ3.out.mono ?_
          rintro e wB ⟨rfl, bB⟩
          have BB := hid (keepS BA.out bB)
          have XB2 := hid (XB.out.trans (BB.out.mono XB.out.size))
          have KB2 := hid (KB.out.below BB.out KB.out.lt)
          have SB2 := hid (SB.out.below BB.out)
          have K3B := hid (K36.out.below XB2.out K36.out.lt)
          have K5B := hid (K56.out.below XB2.out K56.out.lt)
          have S3B := hid (S36.out.below XB2.out)
          have S5B := hid (S6.out.below XB2.out)
          have HBE := hid (keepS HB6.out XB2.out)
          clear bB HQ3 BA BB KB SB
          have cv1 := fun cap => seg_conv SB2.out (shF_byt HF.out T3) 0 cap
          have cv2 := fun cap => seg_conv S3B.out (shF_byt HF.out T3) 0 cap
          have cv3 := fun cap => seg_conv S5B.out (shF_byt HF.out T3) 0 cap
          simp only [World.drewN_zero] at cv1 cv2 cv3
          obtain ⟨S, hS⟩ : ∃ S, strG (shF (gz zs) T3) 0 m3 = S := ⟨_, rfl⟩
          rw [hS] at cv1 cv2 cv3
          clear hS
          have dS : (S.toList == S.toList) = true := by simp
          have dX : ((X3 : Int) != (X3 : Int)) = false := by simp
          have dT : ((T3 : Int) != (T3 : Int)) = false := by simp
          have eX : ((X3 : Int) == (X3 : Int)) = true := by simp
          have eT : ((T3 : Int) == (T3 : Int)) = true := by simp
          obtain ⟨p0, p1, p2⟩ := KB2.out
          obtain ⟨q0, q1, q2⟩ := K3B.out
          obtain ⟨r0, r1, r2⟩ := K5B.out
          go_wp2_with fail
          go_ret
          exact ⟨rfl, HBE.out⟩
    · clear s1 s2 hf1 hf2 hE
      go_enter Tryd.func3, Tryd.ntmps3
      go_wp2_with fail
      go_ret
      exact ⟨rfl, Below.refl _ _⟩
  · clear s1 s2 hf1 hf2 hE
    go_enter Tryd.func3, Tryd.ntmps3
    go_wp2_with fail
    go_ret
    exact ⟨rfl, Below.refl _ _⟩
end Go.Proofs.YthkppnmnjboiaaaDoor.fnChunks
