import Derived.Test.YtdfdhokbgmflfaaKyc
namespace Go.Proofs.Ytdfdhokbgmflfaa
open Go.ChangeShapes Go.WideShapes Go.ChangeAt Go.RowKit
set_option linter.unusedVariables false
set_option linter.unusedSimpArgs false

theorem nilRow (w : World) (B : Nat) : w.ownsRow B 57 2 (.slice none 0 0) 0 [] := ⟨rfl, .inl ⟨rfl, rfl⟩⟩
set_option maxRecDepth 100000 in
set_option maxHeartbeats 2000000 in
theorem implKeys (a : Option Addr) (c : Nat) (l : List Lf) (x : Option Addr) (n d : Nat) (R F T : Nat → Int) (p : List ByteArray) (pa : Option Addr) (cp : Nat) (w : World) (hn : l.length ≤ 1048576) (hp : LBd l) (hi : ∀ i, LfI (gL l i)) (hm : n ≤ 1048576) (hq : p.length ≤ 1048576) (h : LSeg w a l) (h' : RSeg w x n R F T) (hs : SSeg w pa p) :
    Calls Try.prog 9 #[.agg #[.slice a l.length c, .slice x n d], .slice pa p.length cp] w fun e w' => (∃ v ts, e = .returned (.tuple #[v, .bool (yes (KyOk R F T n l p))]) ∧ w'.ownsRow w.heap.size 57 2 v ts.length (kRow ts) ∧ ts.length ≤ 1048576 ∧ (KyOk R F T n l p → ts = kS l p l.length) ∧ (¬ KyOk R F T n l p → ts = [])) ∧ Below w.heap.size w w' := by
  obtain ⟨W, hW⟩ : ∃ W, w.alloc (.cells #[.slice a l.length c, .slice x n d] 39) = W := ⟨_, rfl⟩
  have b0 : Below w.heap.size w W := by rw [← hW]; exact (Below.refl _ _).alloc (Nat.le_refl _) _
  have B0 : Bx2 W w.heap.size (.slice a l.length c) (.slice x n d) := by rw [← hW]; exact Bx2.made _ _ _ _
  have k0 := B0.c0
  have k1 := B0.c1
  have HL := hid (h.below b0)
  have HR := hid (h'.below b0)
  have HS := hid (hs.below b0)
  have HB0 := hid b0
  clear h h' hs b0 B0
  by_cases hok : StOk R F T n l
  · have HO := hid (openStateK a c l x n d R F T W hn hp hi hm HL.out HR.out hok)
    have HOK := hid hok
    clear hok
    go_enter Try.func9, Try.ntmps9
    go_wp2_with fail
    try rw [hW]
    clear hW
    refine HO.out.mono ?_
    rintro e w1 ⟨⟨x0, bm, D, G, N, B, rfl, hgrp, _, _, _, hT, hN, hI⟩, b1⟩
    obtain ⟨w2, hw2⟩ : ∃ w2, w1.alloc (.cells #[.map (some x0.1), .map (some x0.2), .map (some bm)] 67) = w2 := ⟨_, rfl⟩
    have b2 : Below w1.heap.size w1 w2 := by rw [← hw2]; exact (Below.refl _ _).alloc (Nat.le_refl _) _
    have L2 : Bx3 w2 w1.heap.size (.map (some x0.1)) (.map (some x0.2)) (.map (some bm)) := by rw [← hw2]; exact Bx3.made _ _ _ _ _
    have c0 := L2.c0
    have c1 := L2.c1
    have HT := hid (hT.below b2)
    have HN := hid hN
    have HI := hid hI
    have HZ := hid (keepS HB0.out (keepS b1 b2))
    have HS2 := hid (HS.out.below (keepS b1 b2))
    clear b1 b2 L2 hT hN hI hgrp HO k0 k1
    have HFIN : Hid (KyOk R F T n l p → (∀ i, (gS p i).size ≤ 1048576) → Calls Try.prog 26 #[.agg #[.map (some x0.1), .map (some x0.2)], .slice pa p.length cp, .int .i64 3] w2 fun e w' => e = .returned (.agg #[.map (mF (N (wayOf p 3))), .map (mS (N (wayOf p 3)))]) ∧ Below w2.heap.size w2 w') := hid (fun _ hsz => by
      have := atC p pa cp 3 B (9 * l.length) N (Mk l l.length) w2 hq hsz (by decide) HS2.out HT.out
      rw [HN.out] at this
      exact this)
    have HSK : Hid (∀ w3, Below w2.heap.size w2 w3 → Calls Try.prog 27 #[.agg #[.map (mF (N (wayOf p 3))), .map (mS (N (wayOf p 3)))]] w3 fun e w' => ∃ v ts, e = .returned v ∧ ts = kS l p l.length ∧ ts.length ≤ 1048576 ∧ w'.ownsRow w3.heap.size 57 2 v ts.length (kRow ts) ∧ Below w3.heap.size w3 w') := hid (fun w3 b3 =>
      (sortedKeysC B (9 * l.length) N (Mk l l.length) (wayOf p 3) w3 (HT.out.below b3) (by have := HOK.out.2.1; omega)).mono fun e w' ⟨v, ts, he, h1, h2, h3, h4, h5⟩ => ⟨v, ts, he, kS_tree HOK.out.2.2.1 HI.out h1 h2, h3, h4, h5⟩)
    obtain ⟨u, hu⟩ : ∃ u, mF (N (wayOf p 3)) = u := ⟨_, rfl⟩
    obtain ⟨u', hu'⟩ : ∃ u', mS (N (wayOf p 3)) = u' := ⟨_, rfl⟩
    rw [hu, hu'] at HFIN HSK
    clear hu hu'
    by_cases hp0 : p.length = 0
    · have HKY : Hid (KyOk R F T n l p) := hid ⟨HOK.out, .inl hp0⟩
      have HA := hid (HFIN.out HKY.out (fun i => by rw [gS_far (by omega)]; simp))
      have dp : decide ((0 : Int) < (p.length : Int)) = false := by simp; exact List.eq_nil_of_length_eq_zero hp0
      have dp2 : decide (0 < p.length) = false := by simp; exact List.eq_nil_of_length_eq_zero hp0
      clear hp0
      go_wp2_with fail
      refine HA.out.mono ?_
      rintro e w4 ⟨rfl, b4⟩
      have HZ4 := hid (keepS HZ.out b4)
      have HK := hid (HSK.out w4 b4)
      clear b4 HA HSK HFIN
      go_wp2_with fail
      refine HK.out.mono ?_
      rintro e w5 ⟨v, ts, rfl, hts, hlen, ho, hb⟩
      have HTS := hid (And.intro hts hlen)
      have HZ5 := hid (keepS HZ4.out hb)
      have HO5 : Hid (w5.ownsRow w.heap.size 57 2 v ts.length (kRow ts)) := hid (by
        obtain ⟨q1, q2⟩ := ho
        refine ⟨q1, ?_⟩
        rcases q2 with q2 | ⟨g, cap, cur, e, hbg, r⟩
        · exact .inl q2
        · exact .inr ⟨g, cap, cur, e, Nat.le_trans HZ4.out.size hbg, r⟩)
      clear hts hlen ho hb HK
      go_wp2_with fail
      go_ret2
      exact ⟨⟨v, ts, by rw [yes_t HKY.out]; rfl, HO5.out, HTS.out.2, fun _ => HTS.out.1, fun hh => absurd HKY.out hh⟩, HZ5.out⟩
    · have dp : decide ((0 : Int) < (p.length : Int)) = true := by simp; omega
      have dp2 : decide (0 < p.length) = true := by simp; omega
      have HP := hid (pathImpl p pa cp w2 hq HS2.out)
      obtain ⟨Z, hZ⟩ : ∃ Z, yes (PthOk p) = Z := ⟨_, rfl⟩
      rw [hZ] at HP
      have HZp := hid hZ
      clear hZ
      go_wp2_with fail
      refine HP.out.mono ?_
      rintro e w3 ⟨rfl, rfl⟩
      clear HP
      cases Z with
      | false =>
        have HF : Hid (¬ KyOk R F T n l p) := hid (fun h => by have := HZp.out; rw [yes_t (h.2.resolve_left hp0)] at this; cases this)
        go_wp2_with fail
        go_ret2
        exact ⟨⟨_, [], by rw [yes_f HF.out]; rfl, nilRow _ _, by simp, fun h => absurd h HF.out, fun _ => rfl⟩, HZ.out⟩
      | true =>
        have HKY : Hid (KyOk R F T n l p) := hid ⟨HOK.out, .inr (yes_iff.1 HZp.out)⟩
        have HA := hid (HFIN.out HKY.out (fun i => by
          by_cases hi' : i < p.length
          · have := ((yes_iff.1 HZp.out).2.2 i hi').2; omega
          · rw [gS_far (by omega)]; simp))
        go_wp2_with fail
        refine HA.out.mono ?_
        rintro e w4 ⟨rfl, b4⟩
        have HZ4 := hid (keepS HZ.out b4)
        have HK := hid (HSK.out w4 b4)
        clear b4 HA HSK HFIN
        go_wp2_with fail
        refine HK.out.mono ?_
        rintro e w5 ⟨v, ts, rfl, hts, hlen, ho, hb⟩
        have HTS := hid (And.intro hts hlen)
        have HZ5 := hid (keepS HZ4.out hb)
        have HO5 : Hid (w5.ownsRow w.heap.size 57 2 v ts.length (kRow ts)) := hid (by
          obtain ⟨q1, q2⟩ := ho
          refine ⟨q1, ?_⟩
          rcases q2 with q2 | ⟨g, cap, cur, e, hbg, r⟩
          · exact .inl q2
          · exact .inr ⟨g, cap, cur, e, Nat.le_trans HZ4.out.size hbg, r⟩)
        clear hts hlen ho hb HK
        go_wp2_with fail
        go_ret2
        exact ⟨⟨v, ts, by rw [yes_t HKY.out]; rfl, HO5.out, HTS.out.2, fun _ => HTS.out.1, fun hh => absurd HKY.out hh⟩, HZ5.out⟩
  · have HO := hid (openStateNo a c l x n d R F T W hn hp hi hm HL.out HR.out hok)
    have HF : Hid (¬ KyOk R F T n l p) := hid (fun h => hok h.1)
    clear hok
    go_enter Try.func9, Try.ntmps9
    go_wp2_with fail
    try rw [hW]
    clear hW
    refine HO.out.mono ?_
    rintro e w1 ⟨rfl, b1⟩
    have HZ := hid ((keepS HB0.out b1).alloc (keepS HB0.out b1).size (.cells #[.map none, .map none, .map none] 67))
    clear b1 HO k0 k1
    go_wp2_with fail
    go_ret2
    exact ⟨⟨_, [], by rw [yes_f HF.out]; rfl, nilRow _ _, by simp, fun h => absurd h HF.out, fun _ => rfl⟩, HZ.out⟩
set_option maxHeartbeats 400000 in
theorem eqKeyC (s : ByteArray) (k : Int) (w : World) : Calls Try.prog 28 #[.agg #[.string s, .int .i64 k], .agg #[.string s, .int .i64 k]] w fun e w' => e = .returned (.bool true) ∧ Below w.heap.size w w' := by
  have hr : (s.toList == s.toList) = true := by simp
  have hq : (k != k) = false := by simp
  have HB := hid (((Below.refl w.heap.size w).alloc (Nat.le_refl _) (.cells #[.string s, .int .i64 k] 57)).alloc (by simp) (.cells #[.string s, .int .i64 k] 57))
  go_enter Try.func28, Try.ntmps28
  go_wp2_with fail
  go_ret
  exact ⟨rfl, HB.out⟩
end Go.Proofs.Ytdfdhokbgmflfaa
