import Derived.Test.YtkhicohhahaahaaTrc
namespace Go.Proofs.Ytkhicohhahaahaa
open Go.ChangeShapes Go.WideShapes Go.ChangeAt Go.RowKit Go.Maps
set_option linter.unusedVariables false
set_option linter.unusedSimpArgs false

theorem zeroNode (w : World) : (zeroValue 59).run Try.prog w = .ok (nodV none) w := by kernel_rfl
theorem zeroMark (w : World) : (zeroValue 68).run Try.prog w = .ok (mrkV none) w := by kernel_rfl

structure PB (w : World) (h : Nat) (x : Nat × Nat) (r q : Int) (s : ByteArray) : Prop where
  n : Bx2 w h (.map (some x.1)) (.map (some x.2))
  d : Bx2 w (h + 1) (.int .i64 r) (.int .i64 q)
  m : Bx1 w (h + 2) (.string s)
theorem PB.below {w w' : World} {h : Nat} {x : Nat × Nat} {r q : Int} {s : ByteArray} (p : PB w h x r q s) (hb : Below w.heap.size w w') : PB w' h x r q s := ⟨p.n.below hb p.n.lt, p.d.below hb p.d.lt, p.m.below hb p.m.lt⟩
theorem PB.gt {w w' : World} {B h : Nat} {x : Nat × Nat} {r q : Int} {s : ByteArray} (p : PB w h x r q s) (hb : Gt B w w') : PB w' h x r q s := ⟨p.n.gt hb, p.d.gt hb, p.m.gt hb⟩
theorem PB.set {w : World} {h : Nat} {x : Nat × Nat} {r q : Int} {s : ByteArray} (p : PB w h x r q s) (y : Nat × Nat) : PB ((w.setCell ⟨h, 0, none⟩ (.map (some y.1))).setCell ⟨h, 1, none⟩ (.map (some y.2))) h y r q s :=
  ⟨p.n.set _ _, (p.d.setAt _ _ (by simp)).setAt _ _ (by simp), (p.m.setAt _ _ (by simp)).setAt _ _ (by simp)⟩
theorem PB.setAt {w : World} {h : Nat} {x : Nat × Nat} {r q : Int} {s : ByteArray} (p : PB w h x r q s) (a : Addr) (u : Value) (ha : h + 2 < a.block) : PB (w.setCell a u) h x r q s :=
  ⟨p.n.setAt _ _ (by omega), p.d.setAt _ _ (by omega), p.m.setAt _ _ (by omega)⟩

set_option maxRecDepth 100000 in
set_option maxHeartbeats 2000000 in
theorem putC (p : List ByteArray) (a : Option Addr) (cp : Nat) (k : Int) (r q : Int) (s : ByteArray) (B c : Nat) (N : List Ky → Option (Nat × Nat)) (M : List Ky → Dt → Option ByteArray) (x0 : Nat × Nat) (w : World)
    (hp : p.length ≤ 1048576) (hs : ∀ i, (gS p i).size ≤ 1048576) (hk : (Lit.int .i64 k).wf = true) (hr : (Lit.int .i64 r).wf = true) (hq : (Lit.int .i64 q).wf = true) (hc : c ≤ 1073741824) (hB : B ≤ w.heap.size) (h : SSeg w a p) (hT : Tre w B N M c) (h0 : N [] = some x0) :
    Calls Try.prog 42 #[.agg #[.map (some x0.1), .map (some x0.2)], .slice a p.length cp, .int .i64 k, .agg #[.int .i64 r, .int .i64 q], .agg #[.string s]] w fun e w' => e = .returned (.tuple #[]) ∧ Gt B w w' ∧
      ∃ N', Tre w' B N' (updM M (wayOf p k) (r, q) s) (c + p.length + 1) ∧ N' [] = some x0 ∧ ∀ z, (N' z).isSome = true ↔ (N z).isSome = true ∨ z <+: wayOf p k := by
  obtain ⟨W, hW⟩ : ∃ W, ((w.alloc (.cells #[.map (some x0.1), .map (some x0.2)] 59)).alloc (.cells #[.int .i64 r, .int .i64 q] 50)).alloc (.cells #[.string s] 68) = W := ⟨_, rfl⟩
  have b0 : Below w.heap.size w W := by rw [← hW]; exact (((Below.refl _ _).alloc (Nat.le_refl _) _).alloc (by simp) _).alloc (by simp; omega) _
  have P0 : PB W w.heap.size x0 r q s := by
    have d1 := Bx2.made (w.alloc (.cells #[.map (some x0.1), .map (some x0.2)] 59)) (.int .i64 r) (.int .i64 q) 50
    have m1 := Bx1.made ((w.alloc (.cells #[.map (some x0.1), .map (some x0.2)] 59)).alloc (.cells #[.int .i64 r, .int .i64 q] 50)) (.string s) 68
    rw [← hW]
    exact ⟨((Bx2.made w _ _ _).allocs _).allocs _, by simpa using d1.allocs _, by simpa using m1⟩
  have HS := hid h
  have HP0 := hid P0
  have HT0 := hid (hT.below b0)
  have HG0 := hid (Gt.of_below (B := B) b0)
  have H0 := hid h0
  have HB := hid hB
  have Hs := hid hs
  clear h hT h0 b0 P0 hs hB
  go_enter Try.func42, Try.ntmps42
  go_wp2_with fail
  try rw [hW]
  clear hW
  go_loopw [16] (fun i wr => ∃ j : Nat, j ≤ p.length ∧ i = .int .i64 j ∧ Hid (Gt B w wr) ∧ (∃ Nk x, Hid (Tre wr B Nk M (c + j)) ∧ Hid (Nk [] = some x0) ∧ Hid (Nk ((wayOf p k).take j) = some x) ∧ Hid (∀ z, (Nk z).isSome = true ↔ (N z).isSome = true ∨ z <+: (wayOf p k).take j) ∧ Hid (PB wr w.heap.size x r q s))) (fun i _ => p.length - (intOf i).toNat)
  case atStart =>
    refine ⟨0, Nat.zero_le _, rfl, HG0, N, x0, HT0, H0, hid (by simpa using H0.out), hid (fun z => ?_), HP0⟩
    simp only [List.take_zero, List.prefix_nil]
    exact ⟨fun h => .inl h, fun h => h.elim id (fun e => by rw [e, H0.out]; rfl)⟩
  case round =>
    clear HT0 HG0 HP0
    obtain ⟨j, hj, rfl, HG, Nk, x, HT, HN0, HNk, HI, HP⟩ := hrel
    by_cases hlt : j < p.length
    · have i1 : (0 : Int) ≤ (j : Int) := Int.natCast_nonneg _
      have i2 : (j : Int) < (p.length : Int) := by omega
      have HKW := hid (keyOnWay p a cp k j wr hp hlt (HS.out.gt HG.out))
      obtain ⟨nm, kd, hkey⟩ : ∃ nm kd, onWay p k j = (nm, kd) := ⟨_, _, rfl⟩
      have HKey := hid hkey
      rw [hkey] at HKW
      obtain ⟨kl, hkl⟩ : ∃ kl, keyOf Try.prog 91 (keyV (nm, kd)) = some kl := by
        unfold onWay at hkey
        have e1 := (Prod.mk.inj hkey).1
        have e2 := (Prod.mk.inj hkey).2
        refine keyKey ?_ ?_
        · rw [← e1]; have := Hs.out j; unfold maxLen; omega
        · rw [← e2]; split
          · decide
          · exact hk
      have HKL := hid hkl
      clear hkey hkl
      dsimp only [keyV] at HKW
      go_wp2_with fail
      refine HKW.out.mono ?_
      rintro e w1 ⟨rfl, b1⟩
      obtain ⟨w2, hw2⟩ : ∃ w2, w1.alloc (.cells #[.string nm, .int .i64 kd] 91) = w2 := ⟨_, rfl⟩
      have b2 : Below wr.heap.size wr w2 := by rw [← hw2]; exact b1.alloc b1.size _
      have HK2 : Bx2 w2 w1.heap.size (.string nm) (.int .i64 kd) := by rw [← hw2]; exact Bx2.made _ _ _ _
      have HP2 := HP.out.below b2
      have HT2 := hid (HT.out.below b2)
      have HG2 := hid (HG.out.keep b2)
      have e0 := HP2.n.c0
      have e1 := HK2.c0
      have e2 := HK2.c1
      have HPk := hid HP2
      have HKB := hid HK2
      have HPz : Hid (w.heap.size + 2 < w2.heap.size) := hid HP2.m.lt
      have hlk := (HT2.out.kids _ x HNk.out).look_ok (mt := 56) keyKeyed Try.underlying56 (zeroNode w2) HKL.out
      clear HK2 HP2 b1 b2 HKW HT HG HP
      dsimp only [keyV] at hlk
      have hst : (wayOf p k).take (j + 1) = (wayOf p k).take j ++ [(nm, kd)] := by rw [wayOf_take hlt]; have := HKey.out; unfold onWay at this; rw [this]
      have HST := hid hst
      clear hst
      cases hNy : Nk ((wayOf p k).take j ++ [(nm, kd)]) with
      | some y =>
        rw [hNy] at hlk
        dsimp only [nodV, Option.isSome] at hlk
        have HNy := hid hNy
        clear hNy
        obtain ⟨w3, hw3⟩ : ∃ w3, w2.alloc (.cells #[.map (some y.1), .map (some y.2)] 59) = w3 := ⟨_, rfl⟩
        have b3 : Below w2.heap.size w2 w3 := by rw [← hw3]; exact (Below.refl _ _).alloc (Nat.le_refl _) _
        have KB : Bx2 w3 w2.heap.size (.map (some y.1)) (.map (some y.2)) := by rw [← hw3]; exact Bx2.made _ _ _ _
        have g0 := KB.c0
        have g1 := KB.c1
        have P3 := HPk.out.below b3
        have n0 := P3.n.c0
        have n1 := P3.n.c1
        have f0 := P3.n.f 0
        have f1 := P3.n.f 1
        have HT3 := hid ((HT2.out.below b3).set (q := ⟨w.heap.size, 0, none⟩) (.map (some y.1)) n0)
        have HT4 := hid (HT3.out.set (q := ⟨w.heap.size, 1, none⟩) (.map (some y.2)) ((P3.n.set0 _).c1))
        have HG3 := hid (((HG2.out.keep b3).set ⟨w.heap.size, 0, none⟩ (.map (some y.1)) (Nat.le_refl _)).set ⟨w.heap.size, 1, none⟩ (.map (some y.2)) (Nat.le_refl _))
        have HP4 := hid (P3.set y)
        clear b3 KB P3 HT3
        go_wp2_with fail
        go_roundw
        case rel =>
          refine ⟨j + 1, hlt, by go_num, HG3, Nk, y, hid (HT4.out.mono (by omega)), HN0, hid (by rw [HST.out]; exact HNy.out), hid (fun z => ?_), HP4⟩
          rw [HI.out z, take_pre HST.out]
          constructor
          · rintro (e | e)
            · exact .inl e
            · exact .inr (.inl e)
          · rintro (e | e | e)
            · exact .inl e
            · exact .inr e
            · exact (HI.out z).1 (by rw [e, HNy.out]; rfl)
        case measure => simp [intOf]; omega
      | none =>
        rw [hNy] at hlk
        dsimp only [nodV, Option.isSome] at hlk
        have HNy := hid hNy
        clear hNy
        obtain ⟨w3, hw3⟩ : ∃ w3, w2.alloc (.cells #[.map none, .map none] 59) = w3 := ⟨_, rfl⟩
        have b3 : Below w2.heap.size w2 w3 := by rw [← hw3]; exact (Below.refl _ _).alloc (Nat.le_refl _) _
        have KB : Bx2 w3 w2.heap.size (.map none) (.map none) := by rw [← hw3]; exact Bx2.made _ _ _ _
        have HKB3 := hid KB
        have HKY3 := hid (HKB.out.below b3 HKB.out.lt)
        have HP3 := hid (HPk.out.below b3)
        have HT3 := hid (HT2.out.below b3)
        have HG3 := hid (HG2.out.keep b3)
        have HZ3 := hid b3.size
        have HW3 := hid hw3
        clear b3 KB HPk HT2 HG2 HKB hw3
        go_wp2_with fail
        rw [HW3.out]
        refine (newNode w3).mono ?_
        rintro e w4 ⟨s1, s2, rfl, hss, hs1, hs2, m1, m2, b4⟩
        have KB4 := HKB3.out.below b4 HKB3.out.lt
        have g0 := KB4.c0
        have g1 := KB4.c1
        have h0 := KB4.f 0
        have h1 := KB4.f 1
        obtain ⟨w5, hw5⟩ : ∃ w5, (w4.setCell ⟨w2.heap.size, 0, none⟩ (.map (some s1))).setCell ⟨w2.heap.size, 1, none⟩ (.map (some s2)) = w5 := ⟨_, rfl⟩
        have zw1 : w1.heap.size < w3.heap.size := HKY3.out.lt
        have zw0 := HP3.out.m.lt
        have hne1 : w2.heap.size ≠ w1.heap.size := by rw [← hw2]; simp
        have hP5 : PB w5 w.heap.size x r q s ∧ w.heap.size + 2 < w2.heap.size := by
          have hz : w.heap.size + 2 < w2.heap.size := HPz.out
          rw [← hw5]
          exact ⟨((HP3.out.below b4).setAt _ _ hz).setAt _ _ hz, hz⟩
        have K5 : Bx2 w5 w2.heap.size (.map (some s1)) (.map (some s2)) := by rw [← hw5]; exact KB4.set _ _
        have Y5 : Bx2 w5 w1.heap.size (.string nm) (.int .i64 kd) := by rw [← hw5]; exact ((HKY3.out.below b4 HKY3.out.lt).setAt _ _ hne1).setAt _ _ hne1
        have T5 : Tre w5 B Nk M (c + j) := by rw [← hw5]; exact ((HT3.out.below b4).set _ g0).set _ (KB4.set0 _).c1
        have G5 : Gt B w w5 := by rw [← hw5]; exact ((HG3.out.keep b4).set _ _ (by show w.heap.size ≤ w2.heap.size; omega)).set _ _ (by show w.heap.size ≤ w2.heap.size; omega)
        have hn1 : s1 ≠ w2.heap.size := by intro e; have := HKB3.out.lt; omega
        have hn2 : s2 ≠ w2.heap.size := by intro e; have := HKB3.out.lt; omega
        have M1 : MapF w5 91 (α := Ky) keyV nodV s1 0 (fun _ => none) := by rw [← hw5]; exact (m1.same (Below.heap_setCell _ _ _ _ hn1)).same (Below.heap_setCell _ _ _ _ hn1)
        have M2 : MapF w5 50 (α := Dt) dtV mrkV s2 0 (fun _ => none) := by rw [← hw5]; exact (m2.same (Below.heap_setCell _ _ _ _ hn2)).same (Below.heap_setCell _ _ _ _ hn2)
        have c1 := hP5.1.n.c0
        have c2 := Y5.c0
        have c3 := Y5.c1
        have c4 := K5.c0
        have c5 := K5.c1
        have HU : Hid (∀ w6, MapF w6 91 keyV nodV x.1 (c + j + 1) (updF (fun z => Nk ((wayOf p k).take j ++ [z])) (nm, kd) (some (s1, s2))) → w5.grownBy w6 (some x.1) → Tre w6 B (updF Nk ((wayOf p k).take j ++ [(nm, kd)]) (some (s1, s2))) M (c + j + 1) ∧ Gt B w w6 ∧ PB w6 w.heap.size x r q s ∧ Bx2 w6 w2.heap.size (.map (some s1)) (.map (some s2))) := hid (fun w6 hu hg => by
          have hlo := (T5.lo _ x HNk.out).1
          have hg6 := Gt.grown hg hlo (T5.kids _ x HNk.out).obj
          refine ⟨T5.add HNk.out HNy.out M1 M2 hss (fun q z hz => ?_) ⟨by have := HB.out; omega, by have := HB.out; omega⟩ hu hg, G5.trans hg6, hP5.1.gt hg6, K5.gt hg6⟩
          have := HT3.out.lt hz
          exact ⟨by omega, by omega, by omega, by omega⟩)
        have HMF := hid (T5.kids _ x HNk.out)
        clear hP5 K5 Y5 T5 G5 M1 M2 m1 m2 b4 KB4 HKB3 HKY3 HP3 HT3 HG3
        go_wp2_with (refine wpList_mapUpdate_F _ rfl _ _ _ 56 rfl 91 59 keyKeyed keyV (fun _ _ => keyV_inj) Try.underlying56 nodV x.1 (c + j) (fun z => Nk ((wayOf p k).take j ++ [z])) rfl HMF.out (by unfold maxLen; omega) (nm, kd) (s1, s2) kl rfl rfl HKL.out ?_; intro w6 hu hg; obtain ⟨T6, G6, P6, K6⟩ := HU.out w6 hu hg; have HT6 := hid T6; have HG6 := hid G6; have HP6 := hid P6; have t0 := P6.n.c0; have t1 := P6.n.c1; have t2 := P6.n.f 0; have t3 := P6.n.f 1; have t4 := K6.c0; have t5 := K6.c1; clear hu hg T6 G6 P6 K6)
        go_roundw
        case rel =>
          have T7 := (HT6.out.set (q := ⟨w.heap.size, 0, none⟩) (.map (some s1)) t0).set (q := ⟨w.heap.size, 1, none⟩) (.map (some s2)) (HP6.out.n.set0 _).c1
          refine ⟨j + 1, hlt, by go_num, hid ((HG6.out.set _ _ (Nat.le_refl _)).set _ _ (Nat.le_refl _)), updF Nk ((wayOf p k).take j ++ [(nm, kd)]) (some (s1, s2)), (s1, s2), hid T7, hid ?_, hid ?_, hid (fun z => ?_), hid (HP6.out.set (s1, s2))⟩
          · rw [updF_other _ _ (by simp)]; exact HN0.out
          · rw [HST.out, updF_same]
          · rw [take_pre HST.out]
            by_cases ez : z = (wayOf p k).take j ++ [(nm, kd)]
            · rw [ez, updF_same]
              exact ⟨fun _ => .inr (.inr rfl), fun _ => rfl⟩
            · rw [updF_other _ _ ez, HI.out z]
              constructor
              · rintro (h | h)
                · exact .inl h
                · exact .inr (.inl h)
              · rintro (h | h | h)
                · exact .inl h
                · exact .inr h
                · exact absurd h ez
        case measure => simp [intOf]; omega
    · obtain rfl : j = p.length := by omega
      have htk : (wayOf p k).take p.length = wayOf p k := List.take_of_length_le (by rw [wayOf_len]; exact Nat.le_refl _)
      rw [htk] at HNk HI
      obtain ⟨kl, hkl⟩ : ∃ kl, keyOf Try.prog 50 (dtV (r, q)) = some kl := dotKey hr hq
      have HKL := hid hkl
      have c0 := HP.out.n.c1
      have c1 := HP.out.d.c0
      have c2 := HP.out.d.c1
      have c3 := HP.out.m.c0
      have HMF := hid (HT.out.marks _ x HNk.out)
      have HU : Hid (∀ w6, MapF w6 50 dtV mrkV x.2 (c + p.length + 1) (updF (M (wayOf p k)) (r, q) (some s)) → wr.grownBy w6 (some x.2) → Tre w6 B Nk (updM M (wayOf p k) (r, q) s) (c + p.length + 1) ∧ Gt B w w6) := hid (fun w6 hu hg =>
          ⟨HT.out.mark HNk.out hu hg, HG.out.trans (Gt.grown hg (HT.out.lo _ x HNk.out).2 (HT.out.marks _ x HNk.out).obj)⟩)
      clear htk hkl HT HG HP
      go_wp2_with (refine wpList_mapUpdate_F _ rfl _ _ _ 57 rfl 50 68 dotKeyed dtV (fun _ _ => dtV_inj) Try.underlying57 mrkV x.2 (c + p.length) (M (wayOf p k)) rfl HMF.out (by unfold maxLen; omega) (r, q) s kl rfl rfl HKL.out ?_; intro w6 hu hg; obtain ⟨T6, G6⟩ := HU.out w6 hu hg; have HT6 := hid T6; have HG6 := hid G6; clear hu hg T6 G6)
      go_end0
      exact ⟨rfl, HG6.out, Nk, HT6.out, HN0.out, HI.out⟩
end Go.Proofs.Ytkhicohhahaahaa
