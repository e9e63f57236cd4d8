import Derived.Test.YtdenbicnckkdfaaGreatMg16
import Derived.Test.YtdenbicnckkdfaaGreatMg13
import Derived.Test.YtdenbicnckkdfaaGreatMg14
namespace Go.Proofs.YtdenbicnckkdfaaGreat
open Go.ChangeShapes Go.WideShapes Go.ChangeAt Go.RowKit Go.Maps
set_option linter.unusedVariables false
set_option linter.unusedSimpArgs false

theorem zeroNode (w : World) : (zeroValue 82).run Tryz.prog w = .ok (nodV none) w := by kernel_rfl
theorem zeroMark (w : World) : (zeroValue 119).run Tryz.prog w = .ok (mrkV none) w := by kernel_rfl

structure PB (w : World) (h : Nat) (x : Nat × Nat) (r q : Int) (s : ByteArray) : Prop where
  n : Bx2 w h (.map (some x.1)) (.map (some x.2))
  d : Bx2 w (h + 1) (.int .i64 r) (.int .i64 q)
  m : Bx1 w (h + 2) (.string s)
theorem PB.below {w w' : World} {h : Nat} {x : Nat × Nat} {r q : Int} {s : ByteArray} (p : PB w h x r q s) (hb : Below w.heap.size w w') : PB w' h x r q s := ⟨p.n.below hb p.n.lt, p.d.below hb p.d.lt, p.m.below hb p.m.lt⟩
theorem PB.gt {w w' : World} {B h : Nat} {x : Nat × Nat} {r q : Int} {s : ByteArray} (p : PB w h x r q s) (hb : Gt B w w') : PB w' h x r q s := ⟨p.n.gt hb, p.d.gt hb, p.m.gt hb⟩
theorem PB.set {w : World} {h : Nat} {x : Nat × Nat} {r q : Int} {s : ByteArray} (p : PB w h x r q s) (y : Nat × Nat) : PB ((w.setCell ⟨h, 0, none⟩ (.map (some y.1))).setCell ⟨h, 1, none⟩ (.map (some y.2))) h y r q s :=
  ⟨p.n.set _ _, (p.d.setAt _ _ (by simp)).setAt _ _ (by simp), (p.m.setAt _ _ (by simp)).setAt _ _ (by simp)⟩
theorem PB.setAt {w : World} {h : Nat} {x : Nat × Nat} {r q : Int} {s : ByteArray} (p : PB w h x r q s) (a : Addr) (u : Value) (ha : h + 2 < a.block) : PB (w.setCell a u) h x r q s :=
  ⟨p.n.setAt _ _ (by omega), p.d.setAt _ _ (by omega), p.m.setAt _ _ (by omega)⟩

set_option maxRecDepth 100000 in
set_option maxHeartbeats 2000000 in
theorem putC (p : List ByteArray) (a : Option Addr) (cp : Nat) (k : Int) (r q : Int) (s : ByteArray) (B c : Nat) (N : List Ky → Option (Nat × Nat)) (M : List Ky → Dt → Option ByteArray) (x0 : Nat × Nat) (w : World)
    (hp : p.length ≤ 1048576) (hs : ∀ i, (gS p i).size ≤ 1048576) (hk : (Lit.int .i64 k).wf = true) (hr : (Lit.int .i64 r).wf = true) (hq : (Lit.int .i64 q).wf = true) (hc : c ≤ 1073741824) (hB : B ≤ w.heap.size) (h : SSeg w a p) (hT : Tre w B N M c) (h0 : N [] = some x0) :
    Calls Tryz.prog 73 #[.agg #[.map (some x0.1), .map (some x0.2)], .slice a p.length cp, .int .i64 k, .agg #[.int .i64 r, .int .i64 q], .agg #[.string s]] w fun e w' => e = .returned (.tuple #[]) ∧ Gt B w w' ∧
      ∃ N', Tre w' B N' (updM M (wayOf p k) (r, q) s) (c + p.length + 1) ∧ N' [] = some x0 ∧ ∀ z, (N' z).isSome = true ↔ (N z).isSome = true ∨ z <+: wayOf p k := by
  obtain ⟨W, hW⟩ : ∃ W, ((w.alloc (.cells #[.map (some x0.1), .map (some x0.2)] 82)).alloc (.cells #[.int .i64 r, .int .i64 q] 67)).alloc (.cells #[.string s] 119) = W := ⟨_, rfl⟩
  have b0 : Below w.heap.size w W := by rw [← hW]; exact (((Below.refl _ _).alloc (Nat.le_refl _) _).alloc (by simp) _).alloc (by simp; omega) _
  have P0 : PB W w.heap.size x0 r q s := by
    have d1 := Bx2.made (w.alloc (.cells #[.map (some x0.1), .map (some x0.2)] 82)) (.int .i64 r) (.int .i64 q) 67
    have m1 := Bx1.made ((w.alloc (.cells #[.map (some x0.1), .map (some x0.2)] 82)).alloc (.cells #[.int .i64 r, .int .i64 q] 67)) (.string s) 119
    rw [← hW]
    exact ⟨((Bx2.made w _ _ _).allocs _).allocs _, by simpa using d1.allocs _, by simpa using m1⟩
  have HS := hid h
  have HP0 := hid P0
  have HT0 := hid (hT.below b0)
  have HG0 := hid (Gt.of_below (B := B) b0)
  have H0 := hid h0
  have HB := hid hB
  have Hs := hid hs
  clear h hT h0 b0 P0 hs hB
  go_enter Tryz.func73, Tryz.ntmps73
  go_wp2_with fail
  try rw [hW]
  clear hW
  go_loopw [16] (fun i wr => ∃ j : Nat, j ≤ p.length ∧ i = .int .i64 j ∧ Hid (Gt B w wr) ∧ (∃ Nk x, Hid (Tre wr B Nk M (c + j)) ∧ Hid (Nk [] = some x0) ∧ Hid (Nk ((wayOf p k).take j) = some x) ∧ Hid (∀ z, (Nk z).isSome = true ↔ (N z).isSome = true ∨ z <+: (wayOf p k).take j) ∧ Hid (PB wr w.heap.size x r q s))) (fun i _ => p.length - (intOf i).toNat)
  case atStart =>
    refine ⟨0, Nat.zero_le _, rfl, HG0, N, x0, HT0, H0, hid (by simpa using H0.out), hid (fun z => ?_), HP0⟩
    simp only [List.take_zero, List.prefix_nil]
    exact ⟨fun h => .inl h, fun h => h.elim id (fun e => by rw [e, H0.out]; rfl)⟩
  case round =>
    clear HT0 HG0 HP0
    obtain ⟨j, hj, rfl, HG, Nk, x, HT, HN0, HNk, HI, HP⟩ := hrel
    by_cases hlt : j < p.length
    · have i1 : (0 : Int) ≤ (j : Int) := Int.natCast_nonneg _
      have i2 : (j : Int) < (p.length : Int) := by omega
      have HKW := hid (keyOnWay p a cp k j wr hp hlt (HS.out.gt HG.out))
      obtain ⟨nm, kd, hkey⟩ : ∃ nm kd, onWay p k j = (nm, kd) := ⟨_, _, rfl⟩
      have HKey := hid hkey
      rw [hkey] at HKW
      obtain ⟨kl, hkl⟩ : ∃ kl, keyOf Tryz.prog 125 (keyV (nm, kd)) = some kl := by
        unfold onWay at hkey
        have e1 := (Prod.mk.inj hkey).1
        have e2 := (Prod.mk.inj hkey).2
        refine keyKey ?_ ?_
        · rw [← e1]; have := Hs.out j; unfold maxLen; omega
        · rw [← e2]; split
          · decide
          · exact hk
      have HKL := hid hkl
      clear hkey hkl
      dsimp only [keyV] at HKW
      go_wp2_with fail
      refine HKW.out.mono ?_
      rintro e w1 ⟨rfl, b1⟩
      obtain ⟨w2, hw2⟩ : ∃ w2, w1.alloc (.cells #[.string nm, .int .i64 kd] 125) = w2 := ⟨_, rfl⟩
      have b2 : Below wr.heap.size wr w2 := by rw [← hw2]; exact b1.alloc b1.size _
      have HK2 : Bx2 w2 w1.heap.size (.string nm) (.int .i64 kd) := by rw [← hw2]; exact Bx2.made _ _ _ _
      have HP2 := HP.out.below b2
      have HT2 := hid (HT.out.below b2)
      have HG2 := hid (HG.out.keep b2)
      have e0 := HP2.n.c0
      have e1 := HK2.c0
      have e2 := HK2.c1
      have HPk := hid HP2
      have HKB := hid HK2
      have HPz : Hid (w.heap.size + 2 < w2.heap.size) := hid HP2.m.lt
      have hlk := (HT2.out.kids _ x HNk.out).look_ok (mt := 79) keyKeyed Tryz.underlying79 (zeroNode w2) HKL.out
      clear HK2 HP2 b1 b2 HKW HT HG HP
      dsimp only [keyV] at hlk
      have hst : (wayOf p k).take (j + 1) = (wayOf p k).take j ++ [(nm, kd)] := by rw [wayOf_take hlt]; have := HKey.out; unfold onWay at this; rw [this]
      have HST := hid hst
      clear hst
      cases hNy : Nk ((wayOf p k).take j ++ [(nm, kd)]) with
      | some y =>
        rw [hNy] at hlk
        dsimp only [nodV, Option.isSome] at hlk
        have HNy := hid hNy
        clear hNy
        obtain ⟨w3, hw3⟩ : ∃ w3, w2.alloc (.cells #[.map (some y.1), .map (some y.2)] 82) = w3 := ⟨_, rfl⟩
        have b3 : Below w2.heap.size w2 w3 := by rw [← hw3]; exact (Below.refl _ _).alloc (Nat.le_refl _) _
        have KB : Bx2 w3 w2.heap.size (.map (some y.1)) (.map (some y.2)) := by rw [← hw3]; exact Bx2.made _ _ _ _
        have g0 := KB.c0
        have g1 := KB.c1
        have P3 := HPk.out.below b3
        have n0 := P3.n.c0
        have n1 := P3.n.c1
        have f0 := P3.n.f 0
        have f1 := P3.n.f 1
        have HT3 := hid ((HT2.out.below b3).set (q := ⟨w.heap.size, 0, none⟩) (.map (some y.1)) n0)
        have HT4 := hid (HT3.out.set (q := ⟨w.heap.size, 1, none⟩) (.map (some y.2)) ((P3.n.set0 _).c1))
        have HG3 := hid (((HG2.out.keep b3).set ⟨w.heap.size, 0, none⟩ (.map (some y.1)) (Nat.le_refl _)).set ⟨w.heap.size, 1, none⟩ (.map (some y.2)) (Nat.le_refl _))
        have HP4 := hid (P3.set y)
        clear b3 KB P3 HT3
        go_wp2_with fail
        go_roundw
        case rel =>
          refine ⟨j + 1, hlt, by go_num, HG3, Nk, y, hid (HT4.out.mono (by omega)), HN0, hid (by rw [HST.out]; exact HNy.out), hid (fun z => ?_), HP4⟩
          rw [HI.out z, take_pre HST.out]
          constructor
          · rintro (e | e)
            · exact .inl e
            · exact .inr (.inl e)
          · rintro (e | e | e)
            · exact .inl e
            · exact .inr e
            · exact (HI.out z).1 (by rw [e, HNy.out]; rfl)
        case measure => simp [intOf]; omega
      | none =>
        rw [hNy] at hlk
        dsimp only [nodV, Option.isSome] at hlk
        have HNy := hid hNy
        clear hNy
        obtain ⟨w3, hw3⟩ : ∃ w3, w2.alloc (.cells #[.map none, .map none] 82) = w3 := ⟨_, rfl⟩
        have b3 : Below w2.heap.size w2 w3 := by rw [← hw3]; exact (Below.refl _ _).alloc (Nat.le_refl _) _
        have KB : Bx2 w3 w2.heap.size (.map none) (.map none) := by rw [← hw3]; exact Bx2.made _ _ _ _
        have HKB3 := hid KB
        have HKY3 := hid (HKB.out.below b3 HKB.out.lt)
        have HP3 := hid (HPk.out.below b3)
        have HT3 := hid (HT2.out.below b3)
        have HG3 := hid (HG2.out.keep b3)
        have HZ3 := hid b3.size
        have HW3 := hid hw3
        clear b3 KB HPk HT2 HG2 HKB hw3
        go_wp2_with fail
        rw [HW3.out]
        refine (newNode w3).mono ?_
        rintro e w4 ⟨s1, s2, rfl, hss, hs1, hs2, m1, m2, b4⟩
        have KB4 := HKB3.out.below b4 HKB3.out.lt
        have g0 := KB4.c0
        have g1 := KB4.c1
        have h0 := KB4.f 0
        have h1 := KB4.f 1
        obtain ⟨w5, hw5⟩ : ∃ w5, (w4.setCell ⟨w2.heap.size, 0, none⟩ (.map (some s1))).setCell ⟨w2.heap.size, 1, none⟩ (.map (some s2)) = w5 := ⟨_, rfl⟩
        have zw1 : w1.heap.size < w3.heap.size := HKY3.out.lt
        have zw0 := HP3.out.m.lt
        have hne1 : w2.heap.size ≠ w1.heap.size := by rw [← hw2]; simp
        have hP5 : PB w5 w.heap.size x r q s ∧ w.heap.size + 2 < w2.heap.size := by
          have hz : w.heap.size + 2 < w2.heap.size := HPz.out
          rw [← hw5]
          exact ⟨((HP3.out.below b4).setAt _ _ hz).setAt _ _ hz, hz⟩
        have K5 : Bx2 w5 w2.heap.size (.map (some s1)) (.map (some s2)) := by rw [← hw5]; exact KB4.set _ _
        have Y5 : Bx2 w5 w1.heap.size (.string nm) (.int .i64 kd) := by rw [← hw5]; exact ((HKY3.out.below b4 HKY3.out.lt).setAt _ _ hne1).setAt _ _ hne1
        have T5 : Tre w5 B Nk M (c + j) := by rw [← hw5]; exact ((HT3.out.below b4).set _ g0).set _ (KB4.set0 _).c1
        have G5 : Gt B w w5 := by rw [← hw5]; exact ((HG3.out.keep b4).set _ _ (by show w.heap.size ≤ w2.heap.size; omega)).set _ _ (by show w.heap.size ≤ w2.heap.size; omega)
        have hn1 : s1 ≠ w2.heap.size := by intro e; have := HKB3.out.lt; omega
        have hn2 : s2 ≠ w2.heap.size := by intro e; have := HKB3.out.lt; omega
        have M1 : MapF w5 125 (α := Ky) keyV nodV s1 0 (fun _ => none) := by rw [← hw5]; exact (m1.same (Below.heap_setCell _ _ _ _ hn1)).same (Below.heap_setCell _ _ _ _ hn1)
        have M2 : MapF w5 67 (α := Dt) dtV mrkV s2 0 (fun _ => none) := by rw [← hw5]; exact (m2.same (Below.heap_setCell _ _ _ _ hn2)).same (Below.heap_setCell _ _ _ _ hn2)
        have c1 := hP5.1.n.c0
        have c2 := Y5.c0
        have c3 := Y5.c1
        have c4 := K5.c0
        have c5 := K5.c1
        have HU : Hid (∀ w6, MapF w6 125 keyV nodV x.1 (c + j + 1) (updF (fun z => Nk ((wayOf p k).take j ++ [z])) (nm, kd) (some (s1, s2))) → w5.grownBy w6 (some x.1) → Tre w6 B (updF Nk ((wayOf p k).take j ++ [(nm, kd)]) (some (s1, s2))) M (c + j + 1) ∧ Gt B w w6 ∧ PB w6 w.heap.size x r q s ∧ Bx2 w6 w2.heap.size (.map (some s1)) (.map (some s2))) := hid (fun w6 hu hg => by
          have hlo := (T5.lo _ x HNk.out).1
          have hg6 := Gt.grown hg hlo (T5.kids _ x HNk.out).obj
          refine ⟨T5.add HNk.out HNy.out M1 M2 hss (fun q z hz => ?_) ⟨by have := HB.out; omega, by have := HB.out; omega⟩ hu hg, G5.trans hg6, hP5.1.gt hg6, K5.gt hg6⟩
          have := HT3.out.lt hz
          exact ⟨by omega, by omega, by omega, by omega⟩)
        have HMF := hid (T5.kids _ x HNk.out)
        clear hP5 K5 Y5 T5 G5 M1 M2 m1 m2 b4 KB4 HKB3 HKY3 HP3 HT3 HG3
        go_wp2_with (refine wpList_mapUpdate_F _ rfl _ _ _ 79 rfl 125 82 keyKeyed keyV (fun _ _ => keyV_inj) Tryz.underlying79 nodV x.1 (c + j) (fun z => Nk ((wayOf p k).take j ++ [z])) rfl HMF.out (by unfold maxLen; omega) (nm, kd) (s1, s2) kl rfl rfl HKL.out ?_; intro w6 hu hg; obtain ⟨T6, G6, P6, K6⟩ := HU.out w6 hu hg; have HT6 := hid T6; have HG6 := hid G6; have HP6 := hid P6; have t0 := P6.n.c0; have t1 := P6.n.c1; have t2 := P6.n.f 0; have t3 := P6.n.f 1; have t4 := K6.c0; have t5 := K6.c1; clear hu hg T6 G6 P6 K6)
        go_roundw
        case rel =>
          have T7 := (HT6.out.set (q := ⟨w.heap.size, 0, none⟩) (.map (some s1)) t0).set (q := ⟨w.heap.size, 1, none⟩) (.map (some s2)) (HP6.out.n.set0 _).c1
          refine ⟨j + 1, hlt, by go_num, hid ((HG6.out.set _ _ (Nat.le_refl _)).set _ _ (Nat.le_refl _)), updF Nk ((wayOf p k).take j ++ [(nm, kd)]) (some (s1, s2)), (s1, s2), hid T7, hid ?_, hid ?_, hid (fun z => ?_), hid (HP6.out.set (s1, s2))⟩
          · rw [updF_other _ _ (by simp)]; exact HN0.out
          · rw [HST.out, updF_same]
          · rw [take_pre HST.out]
            by_cases ez : z = (wayOf p k).take j ++ [(nm, kd)]
            · rw [ez, updF_same]
              exact ⟨fun _ => .inr (.inr rfl), fun _ => rfl⟩
            · rw [updF_other _ _ ez, HI.out z]
              constructor
              · rintro (h | h)
                · exact .inl h
                · exact .inr (.inl h)
              · rintro (h | h | h)
                · exact .inl h
                · exact .inr h
                · exact absurd h ez
        case measure => simp [intOf]; omega
    · obtain rfl : j = p.length := by omega
      have htk : (wayOf p k).take p.length = wayOf p k := List.take_of_length_le (by rw [wayOf_len]; exact Nat.le_refl _)
      rw [htk] at HNk HI
      obtain ⟨kl, hkl⟩ : ∃ kl, keyOf Tryz.prog 67 (dtV (r, q)) = some kl := dotKey hr hq
      have HKL := hid hkl
      have c0 := HP.out.n.c1
      have c1 := HP.out.d.c0
      have c2 := HP.out.d.c1
      have c3 := HP.out.m.c0
      have HMF := hid (HT.out.marks _ x HNk.out)
      have HU : Hid (∀ w6, MapF w6 67 dtV mrkV x.2 (c + p.length + 1) (updF (M (wayOf p k)) (r, q) (some s)) → wr.grownBy w6 (some x.2) → Tre w6 B Nk (updM M (wayOf p k) (r, q) s) (c + p.length + 1) ∧ Gt B w w6) := hid (fun w6 hu hg =>
          ⟨HT.out.mark HNk.out hu hg, HG.out.trans (Gt.grown hg (HT.out.lo _ x HNk.out).2 (HT.out.marks _ x HNk.out).obj)⟩)
      clear htk hkl HT HG HP
      go_wp2_with (refine wpList_mapUpdate_F _ rfl _ _ _ 80 rfl 67 119 dotKeyed dtV (fun _ _ => dtV_inj) Tryz.underlying80 mrkV x.2 (c + p.length) (M (wayOf p k)) rfl HMF.out (by unfold maxLen; omega) (r, q) s kl rfl rfl HKL.out ?_; intro w6 hu hg; obtain ⟨T6, G6⟩ := HU.out w6 hu hg; have HT6 := hid T6; have HG6 := hid G6; clear hu hg T6 G6)
      go_end0
      exact ⟨rfl, HG6.out, Nk, HT6.out, HN0.out, HI.out⟩
end Go.Proofs.YtdenbicnckkdfaaGreat

namespace Go.Proofs.YtdenbicnckkdfaaGreat
open Go.ChangeShapes Go.WideShapes Go.ChangeAt Go.RowKit
set_option linter.unusedVariables false
set_option linter.unusedSimpArgs false

theorem Bx5.set2 {w : World} {b : Nat} {v0 v1 v2 v3 v4 : Value} (h : Bx5 w b v0 v1 v2 v3 v4) (u : Value) : Bx5 (w.setCell ⟨b, 2, none⟩ u) b v0 v1 u v3 v4 :=
  ⟨by simp [World.cell?_setCell_other, h.c0], by simp [World.cell?_setCell_other, h.c1], World.cell?_setCell_same _ _ _ h.c2, by simp [World.cell?_setCell_other, h.c3], by simp [World.cell?_setCell_other, h.c4], fun i => by rw [World.frozen?_setCell]; exact h.f i, by simp [World.setCell]; exact h.lt⟩
theorem Bx5.set3 {w : World} {b : Nat} {v0 v1 v2 v3 v4 : Value} (h : Bx5 w b v0 v1 v2 v3 v4) (u : Value) : Bx5 (w.setCell ⟨b, 3, none⟩ u) b v0 v1 v2 u v4 :=
  ⟨by simp [World.cell?_setCell_other, h.c0], by simp [World.cell?_setCell_other, h.c1], by simp [World.cell?_setCell_other, h.c2], World.cell?_setCell_same _ _ _ h.c3, by simp [World.cell?_setCell_other, h.c4], fun i => by rw [World.frozen?_setCell]; exact h.f i, by simp [World.setCell]; exact h.lt⟩
theorem Bx5.set4 {w : World} {b : Nat} {v0 v1 v2 v3 v4 : Value} (h : Bx5 w b v0 v1 v2 v3 v4) (u : Value) : Bx5 (w.setCell ⟨b, 4, none⟩ u) b v0 v1 v2 v3 u :=
  ⟨by simp [World.cell?_setCell_other, h.c0], by simp [World.cell?_setCell_other, h.c1], by simp [World.cell?_setCell_other, h.c2], by simp [World.cell?_setCell_other, h.c3], World.cell?_setCell_same _ _ _ h.c4, fun i => by rw [World.frozen?_setCell]; exact h.f i, by simp [World.setCell]; exact h.lt⟩
theorem Bx5.made (w : World) (t : TypeId) : Bx5 (w.alloc (.cells #[.slice none 0 0, .bool false, .int .i64 0, .int .i64 0, .string ByteArray.empty] t)) w.heap.size (.slice none 0 0) (.bool false) (.int .i64 0) (.int .i64 0) (.string ByteArray.empty) :=
  ⟨by simp, by simp, by simp, by simp, by simp, fun i => by simp, by simp⟩

def LvOk (R F T : Nat → Int) (n : Nat) (l : List Lf) (k : Nat) : Prop := ∀ i, i < k → LfOk1 (gL l i) ∧ hasK R F T (gL l i).r (gL l i).q (gL l i).q n = true ∧ (0 < i → cmpL (gL l (i - 1)) (gL l i) < 0)
def Dif (x y : Lf) : Prop := ¬ (x.r = y.r ∧ x.q = y.q)
def Dis (l : List Lf) (k : Nat) : Prop := ∀ i, i < k → ∀ j, j < i → Dif (gL l j) (gL l i)
def StOk (R F T : Nat → Int) (n : Nat) (l : List Lf) : Prop := ctxB R F T n = true ∧ l.length ≤ 1000 ∧ LvOk R F T n l l.length ∧ Dis l l.length
theorem LvOk.step {R F T : Nat → Int} {n : Nat} {l : List Lf} {k : Nat} (h : LvOk R F T n l k) (h1 : LfOk1 (gL l k)) (h2 : hasK R F T (gL l k).r (gL l k).q (gL l k).q n = true) (h3 : 0 < k → cmpL (gL l (k - 1)) (gL l k) < 0) : LvOk R F T n l (k + 1) := fun i hi => by
  by_cases e : i = k
  · subst e; exact ⟨h1, h2, h3⟩
  · exact h i (by omega)
theorem Dis.step {l : List Lf} {k : Nat} (h : Dis l k) (h1 : ∀ j, j < k → Dif (gL l j) (gL l k)) : Dis l (k + 1) := fun i hi j hj => by
  by_cases e : i = k
  · subst e; exact h1 j hj
  · exact h i (by omega) j hj

theorem below_drewS {B : Nat} {a w : World} (h : Below B a w) (n : Nat) : Below B a (w.drewN n) := ⟨h.os, h.tape, h.output, h.size, h.block⟩
set_option maxRecDepth 100000 in
set_option maxHeartbeats 2000000 in
theorem specStateOk (a : Option Addr) (c : Nat) (l : List Lf) (x : Option Addr) (n d : Nat) (R F T : Nat → Int) (w : World) (hn : l.length ≤ 1048576) (hp : LBd l) (hm : n ≤ 1048576) (h : LCap w a l) (h' : RSeg w x n R F T) :
    Calls Tryz.prog 36 #[.agg #[.slice a l.length c, .slice x n d]] w fun e w' => e = .returned (.bool (yes (StOk R F T n l))) ∧ Below w.heap.size w w' := by
  obtain ⟨W, hW⟩ : ∃ W, w.alloc (.cells #[.slice a l.length c, .slice x n d] 36) = W := ⟨_, rfl⟩
  have b0 : Below w.heap.size w W := by rw [← hW]; exact (Below.refl _ _).alloc (Nat.le_refl _) _
  have zW : w.heap.size < W.heap.size := by rw [← hW]; simp
  have k0 : W.cell? ⟨w.heap.size, 0, none⟩ = some (.slice a l.length c) := by rw [← hW]; simp
  have k1 : W.cell? ⟨w.heap.size, 1, none⟩ = some (.slice x n d) := by rw [← hW]; simp
  have HC := hid (specOk x n d R F T W hm (h'.below b0))
  have HL := hid (h.below b0)
  have HR := hid (h'.below b0)
  have HB0 := hid b0
  clear h h' b0
  obtain ⟨Y, hY⟩ : ∃ Y, yes (StOk R F T n l) = Y := ⟨_, rfl⟩
  have HY := hid hY
  rw [hY]
  clear hY
  go_enter Tryz.func36, Tryz.ntmps36
  go_wp2_with fail
  try rw [hW]
  clear hW
  refine HC.out.mono ?_
  rintro e w1 ⟨rfl, b1⟩
  have m0 := (b1.cell (p := ⟨w.heap.size, 0, none⟩) zW).trans k0
  have m1 := (b1.cell (p := ⟨w.heap.size, 1, none⟩) zW).trans k1
  have HB1 := hid (HB0.out.trans (b1.mono HB0.out.size))
  have HL1 := hid (HL.out.below b1)
  have HR1 := hid (HR.out.below b1)
  have z1 : w.heap.size < w1.heap.size := Nat.lt_of_lt_of_le zW b1.size
  clear HC HL HR HB0 k0 k1 zW b1
  obtain ⟨C, hC⟩ : ∃ C, ctxB R F T n = C := ⟨_, rfl⟩
  have HC := hid hC
  rw [hC]
  clear hC
  cases C with
  | false =>
    have HF : Hid (Y = false) := hid (by rw [← HY.out]; exact yes_f (fun h => by have := h.1; rw [HC.out] at this; cases this))
    go_wp2_with fail
    go_ret
    exact ⟨ret_b HF.out.symm, HB1.out⟩
  | true =>
    by_cases hbig : (1000 : Int) < (l.length : Int)
    · have d0 : decide ((1000 : Int) < (l.length : Int)) = true := by simpa using hbig
      have HF : Hid (Y = false) := hid (by rw [← HY.out]; exact yes_f (fun h => by have := h.2.1; omega))
      go_wp2_with fail
      go_ret
      exact ⟨ret_b HF.out.symm, HB1.out⟩
    · have d0 : decide ((1000 : Int) < (l.length : Int)) = false := by simpa using hbig
      go_wp2_with fail
      clear d0
      go_loopw [3] (fun i wr => ∃ k : Nat, k ≤ l.length ∧ i = .int .i64 k ∧ Hid (Below w1.heap.size w1 wr) ∧ Hid (LvOk R F T n l k ∧ Dis l k)) (fun i _ => l.length - (intOf i).toNat)
      case atStart => exact ⟨0, Nat.zero_le _, rfl, hid (Below.refl _ _), hid ⟨fun i hi => by omega, fun i hi => by omega⟩⟩
      case round =>
        obtain ⟨k, hk, rfl, HBR, HI⟩ := hrel
        have r0 := (HBR.out.cell (p := ⟨w.heap.size, 0, none⟩) z1).trans m0
        have r1 := (HBR.out.cell (p := ⟨w.heap.size, 1, none⟩) z1).trans m1
        by_cases hlt : k < l.length
        · rcases HL1.out with h | ⟨b, off, rfl, hb, hc⟩
          · omega
          obtain ⟨pa, pc, ⟨c0, cp, cq⟩, s, c1, c2, c3, c4⟩ := hc k hlt
          have x0 := (HBR.out.cell (p := ⟨b, off + k * 5, none⟩) hb).trans c0
          have x1 := (HBR.out.cell (p := ⟨b, off + k * 5 + 1, none⟩) hb).trans c1
          have x2 := (HBR.out.cell (p := ⟨b, off + k * 5 + 2, none⟩) hb).trans c2
          have x3 := (HBR.out.cell (p := ⟨b, off + k * 5 + 3, none⟩) hb).trans c3
          have x4 := (HBR.out.cell (p := ⟨b, off + k * 5 + 4, none⟩) hb).trans c4
          have HS := hid (s.below HBR.out)
          have i1 : (0 : Int) ≤ (k : Int) := Int.natCast_nonneg _
          have i2 : (k : Int) < (l.length : Int) := by omega
          have HCC := hid hc
          have zr : w1.heap.size ≤ wr.heap.size := HBR.out.size
          clear hc c0 c1 c2 c3 c4 s m0 m1
          go_wp2_with fail
          obtain ⟨y, hy⟩ : ∃ y, gL l k = y := ⟨_, rfl⟩
          have hpk := hp k
          rw [hy] at HS x0 x1 x2 x3 x4 cp hpk ⊢
          have HE := hid hy
          clear hy
          obtain ⟨p, fl, r, q, v⟩ := y
          dsimp only at HS x0 x1 x2 x3 x4 cp hpk ⊢
          obtain ⟨W2, hW2⟩ : ∃ W2, wr.alloc (.cells #[.slice pa p.length pc, .bool fl, .int .i64 r, .int .i64 q, .string v] 69) = W2 := ⟨_, rfl⟩
          have b2 : Below wr.heap.size wr W2 := by rw [← hW2]; exact (Below.refl _ _).alloc (Nat.le_refl _) _
          have B5 : Bx5 W2 wr.heap.size (.slice pa p.length pc) (.bool fl) (.int .i64 r) (.int .i64 q) (.string v) := by rw [← hW2]; exact ⟨by simp, by simp, by simp, by simp, by simp, fun i => by simp, by simp⟩
          have t0 := (b2.cell (p := ⟨w.heap.size, 0, none⟩) (show w.heap.size < wr.heap.size by omega)).trans r0
          have t1 := (b2.cell (p := ⟨w.heap.size, 1, none⟩) (show w.heap.size < wr.heap.size by omega)).trans r1
          have y0 := B5.c0
          have y1 := B5.c1
          have y2 := B5.c2
          have y3 := B5.c3
          have y4 := B5.c4
          have HB2 := hid (HBR.out.trans (b2.mono HBR.out.size))
          have HSP := hid (HS.out.below b2)
          have HP := hid (pathSpec p pa pc W2 hpk HSP.out)
          have HA := hid (l2Has x n d R F T r q W2 hm (HR1.out.below HB2.out))
          have z2 : wr.heap.size < W2.heap.size := B5.lt
          have HB5 := hid B5
          rw [hW2]
          clear hW2 b2 B5 x0 x1 x2 x3 x4 r0 r1 HS HBR
          refine HP.out.mono ?_
          rintro e w3 ⟨rfl, rfl⟩
          have HBF := hid (HB1.out.trans (HB2.out.mono HB1.out.size))
          have HNO : Hid (¬ (LfOk1 ⟨p, fl, r, q, v⟩ ∧ hasK R F T r q q n = true ∧ (0 < k → cmpL (gL l (k - 1)) ⟨p, fl, r, q, v⟩ < 0)) → Y = false) := hid (fun no => by
            rw [← HY.out]; exact yes_f (fun h => no (by have := h.2.2.1 k hlt; rw [HE.out] at this; exact this)))
          obtain ⟨Y1, hY1⟩ : ∃ Y1, yes (PthOk p) = Y1 := ⟨_, rfl⟩
          have HY1 := hid hY1
          rw [hY1]
          clear hY1 HP
          cases Y1 with
          | false =>
            have HF := hid (HNO.out (fun h => by have := yes_t h.1.1; rw [HY1.out] at this; cases this))
            clear HNO HA
            go_wp2_with fail
            go_ret
            exact ⟨ret_b HF.out.symm, HBF.out⟩
          | true =>
            by_cases hv : (200 : Int) < (v.size : Int)
            · have d1 : decide ((200 : Int) < (v.size : Int)) = true := by simpa using hv
              have HF := hid (HNO.out (fun h => by have : v.size ≤ 200 := h.1.2.1; omega))
              clear HNO HA
              go_wp2_with fail
              go_ret
              exact ⟨ret_b HF.out.symm, HBF.out⟩
            · have d1 : decide ((200 : Int) < (v.size : Int)) = false := by simpa using hv
              by_cases hbad : fl = true ∧ v.toList.isEmpty = false
              · obtain ⟨rfl, hbad⟩ := hbad
                have HF := hid (HNO.out (fun h => by have : v.toList.isEmpty = true := h.1.2.2 rfl; rw [hbad] at this; cases this))
                clear HNO HA
                go_wp2_with fail
                go_ret
                exact ⟨ret_b HF.out.symm, HBF.out⟩
              · have HOK : Hid (LfOk1 ⟨p, fl, r, q, v⟩) := hid ⟨yes_iff.1 HY1.out, by show v.size ≤ 200; omega, fun e => by
                  show v.toList.isEmpty = true
                  by_cases h : v.toList.isEmpty = true
                  · exact h
                  · exact absurd ⟨e, by simpa using h⟩ hbad⟩
                have HRS := hid hbad
                clear hbad
                clear HY1
                cases fl with
                | true =>
                  have he : v.toList.isEmpty = true := by
                    by_cases h : v.toList.isEmpty = true
                    · exact h
                    · exact absurd ⟨rfl, by simpa using h⟩ HRS.out
                  go_wp2_with fail
                  refine HA.out.mono ?_
                  rintro e w4 ⟨rfl, b4⟩
                  have zt : w.heap.size < w4.heap.size := by have := b4.size; omega
                  have zy : wr.heap.size < w4.heap.size := by have := b4.size; omega
                  have B4 := HB5.out.below b4 z2
                  have t0 := (b4.cell (p := ⟨w.heap.size, 0, none⟩) (show w.heap.size < w3.heap.size by omega)).trans t0
                  have y0 := B4.c0
                  have y1 := B4.c1
                  have y2 := B4.c2
                  have y3 := B4.c3
                  have y4 := B4.c4
                  have HB4 := hid (HB2.out.trans (b4.mono HB2.out.size))
                  have HSK := hid (HSP.out.below b4)
                  have HBF4 := hid (HB1.out.trans (HB4.out.mono HB1.out.size))
                  clear B4 b4 t1 HB5 HSP HBF
                  obtain ⟨A, hA⟩ : ∃ A, hasK R F T r q q n = A := ⟨_, rfl⟩
                  have HHAS := hid hA
                  rw [hA]
                  clear hA
                  cases A with
                  | false =>
                    have HF := hid (HNO.out (fun h => by have := h.2.1; rw [HHAS.out] at this; cases this))
                    clear HNO HCC
                    go_wp2_with fail
                    go_ret
                    exact ⟨ret_b HF.out.symm, HBF4.out⟩
                  | true =>
                    by_cases hk0 : k = 0
                    · have d2 : decide ((0 : Int) < (k : Int)) = false := by simp; omega
                      have d3 : decide (0 < k) = false := by simp; omega
                      have HORD : Hid (0 < k → cmpL (gL l (k - 1)) ⟨p, true, r, q, v⟩ < 0) := hid (fun h => by omega)
                      clear hk0
                      go_wp2_with fail
                      go_quiet (fail)
                      obtain ⟨w5, hw5⟩ : ∃ w5, w4.drewN nq = w5 := ⟨_, rfl⟩
                      have HB5 : Hid (Below w1.heap.size w1 w5) := hid (by rw [← hw5]; exact below_drewS HB4.out _)
                      have t0 : w5.cell? ⟨w.heap.size, 0, none⟩ = some (.slice (some ⟨b, off, none⟩) l.length c) := by rw [← hw5]; exact t0
                      have y2 : w5.cell? ⟨wr.heap.size, 2, none⟩ = some (.int .i64 r) := by rw [← hw5]; exact y2
                      have y3 : w5.cell? ⟨wr.heap.size, 3, none⟩ = some (.int .i64 q) := by rw [← hw5]; exact y3
                      have zt : w.heap.size < w5.heap.size := by rw [← hw5]; exact zt
                      have zy : wr.heap.size < w5.heap.size := by rw [← hw5]; exact zy
                      rw [hw5]
                      clear hw5 d2 d3 HB4 HBF4 HSK y0 y1 y4
                      have HY2 : Hid (∀ wi, Below w5.heap.size w5 wi → wi.cell? ⟨wr.heap.size, 2, none⟩ = some (.int .i64 r)) := hid (fun wi h => (h.cell (p := ⟨wr.heap.size, 2, none⟩) zy).trans y2)
                      have HY3 : Hid (∀ wi, Below w5.heap.size w5 wi → wi.cell? ⟨wr.heap.size, 3, none⟩ = some (.int .i64 q)) := hid (fun wi h => (h.cell (p := ⟨wr.heap.size, 3, none⟩) zy).trans y3)
                      go_wp2_with fail
                      go_loopw [5] (fun i wi => ∃ j : Nat, j ≤ k ∧ i = .int .i64 j ∧ Hid (Below w5.heap.size w5 wi) ∧ Hid (∀ t, t < j → Dif (gL l t) (gL l k))) (fun i _ => k - (intOf i).toNat)
                      case atStart => exact ⟨0, Nat.zero_le _, rfl, hid (Below.refl _ _), hid (fun t ht => by omega)⟩
                      case round =>
                        obtain ⟨j, hj, rfl, HBI, HDI⟩ := hrel
                        have g0 := (HBI.out.cell (p := ⟨w.heap.size, 0, none⟩) zt).trans t0
                        have g2 := HY2.out _ HBI.out
                        have g3 := HY3.out _ HBI.out
                        by_cases hjk : j < k
                        · obtain ⟨ja, jc, _, _, _, c2, c3, _⟩ := HCC.out j (by omega)
                          have j2 := (((HB5.out.trans (HBI.out.mono HB5.out.size)).cell (p := ⟨b, off + j * 5 + 2, none⟩) hb)).trans c2
                          have j3 := (((HB5.out.trans (HBI.out.mono HB5.out.size)).cell (p := ⟨b, off + j * 5 + 3, none⟩) hb)).trans c3
                          obtain ⟨yj, hyj⟩ : ∃ yj, gL l j = yj := ⟨_, rfl⟩
                          rw [hyj] at j2 j3
                          have HEJ := hid hyj
                          obtain ⟨pj, fj, rj, qj, vj⟩ := yj
                          dsimp only at j2 j3
                          have q1 : (0 : Int) ≤ (j : Int) := Int.natCast_nonneg _
                          have q2 : (j : Int) < (l.length : Int) := by omega
                          have q3 : (j : Int) < (k : Int) := by omega
                          have hG := dotGuard
                          have EQ : ∀ w : World, (binOp .eql 67 (.agg #[.int .i64 rj, .int .i64 qj]) (.agg #[.int .i64 r, .int .i64 q])).run Tryz.prog w = .ok (.bool (rj == r && qj == q)) w := fun w => eqlDot rj qj r q w
                          clear hyj c2 c3 t0 y2 y3
                          by_cases hr : rj = r
                          · have e1 : (rj == r) = true := by simpa using hr
                            by_cases hq : qj = q
                            · have e2 : (qj == q) = true := by simpa using hq
                              have EQ : ∀ w : World, (binOp .eql 67 (.agg #[.int .i64 rj, .int .i64 qj]) (.agg #[.int .i64 r, .int .i64 q])).run Tryz.prog w = .ok (.bool true) w := fun w => by rw [EQ w, e1, e2]; rfl
                              have HF : Hid (Y = false) := hid (by rw [← HY.out]; exact yes_f (fun h => h.2.2.2 k hlt j hjk (by rw [HEJ.out, HE.out]; exact ⟨hr, hq⟩)))
                              have HZ := hid (HB1.out.trans ((HB5.out.trans (HBI.out.mono HB5.out.size)).mono HB1.out.size))
                              clear HNO HDI HCC
                              go_wp2_with fail
                              go_quiet (fail)
                              go_wp2_with fail
                              go_ret
                              exact ⟨ret_b HF.out.symm, below_drewS HZ.out _⟩
                            · have e2 : (qj == q) = false := by simpa using hq
                              have EQ : ∀ w : World, (binOp .eql 67 (.agg #[.int .i64 rj, .int .i64 qj]) (.agg #[.int .i64 r, .int .i64 q])).run Tryz.prog w = .ok (.bool false) w := fun w => by rw [EQ w, e1, e2]; rfl
                              have HD : Hid (∀ t, t < j + 1 → Dif (gL l t) (gL l k)) := hid (fun t ht => by
                                by_cases e : t = j
                                · rw [e, HEJ.out, HE.out]; exact fun h => hq h.2
                                · exact HDI.out t (by omega))
                              clear HNO HDI HCC
                              go_wp2_with fail
                              go_quiet (fail)
                              have HBN := hid (below_drewS HBI.out nq)
                              go_wp2_with fail
                              go_roundw
                              case rel => exact ⟨j + 1, hjk, by go_num, HBN, HD⟩
                              case measure => simp [intOf]; omega
                          · have e1 : (rj == r) = false := by simpa using hr
                            have EQ : ∀ w : World, (binOp .eql 67 (.agg #[.int .i64 rj, .int .i64 qj]) (.agg #[.int .i64 r, .int .i64 q])).run Tryz.prog w = .ok (.bool false) w := fun w => by rw [EQ w, e1]; rfl
                            have HD : Hid (∀ t, t < j + 1 → Dif (gL l t) (gL l k)) := hid (fun t ht => by
                              by_cases e : t = j
                              · rw [e, HEJ.out, HE.out]; exact fun h => hr h.1
                              · exact HDI.out t (by omega))
                            clear HNO HDI HCC
                            go_wp2_with fail
                            go_quiet (fail)
                            have HBN := hid (below_drewS HBI.out nq)
                            go_wp2_with fail
                            go_roundw
                            case rel => exact ⟨j + 1, hjk, by go_num, HBN, HD⟩
                            case measure => simp [intOf]; omega
                        · obtain rfl : j = k := by omega
                          have HN : Hid (LvOk R F T n l (j + 1) ∧ Dis l (j + 1)) := hid ⟨HI.out.1.step (by rw [HE.out]; exact HOK.out) (by rw [HE.out]; exact HHAS.out) (fun h => by rw [HE.out]; exact HORD.out h), HI.out.2.step HDI.out⟩
                          have HZ := hid (HB5.out.trans (HBI.out.mono HB5.out.size))
                          clear HNO HDI HCC t0 y2 y3 g0 g2 g3
                          go_wp2_with fail
                          go_roundw
                          case rel => exact ⟨j + 1, hlt, by go_num, HZ, HN⟩
                          case measure => simp [intOf]; omega
                    · obtain ⟨j, hj⟩ : ∃ j, k = j + 1 := ⟨k - 1, by omega⟩
                      obtain ⟨pa', pc', ⟨c0, cp', cq'⟩, s', c1, c2, c3, c4⟩ := HCC.out j (by omega)
                      have q' := fun (o : Nat) => HB4.out.cell (p := ⟨b, o, none⟩) hb
                      have j0 := (q' _).trans c0
                      have j1 := (q' _).trans c1
                      have j2 := (q' _).trans c2
                      have j3 := (q' _).trans c3
                      have j4 := (q' _).trans c4
                      have HSJ := hid (s'.below HB4.out)
                      have hpj := hp j
                      obtain ⟨y', hy'⟩ : ∃ y', gL l j = y' := ⟨_, rfl⟩
                      rw [hy'] at j0 j1 j2 j3 j4 HSJ hpj cp'
                      have HEJ := hid hy'
                      obtain ⟨p', fl', r', q', v'⟩ := y'
                      dsimp only at j0 j1 j2 j3 j4 HSJ hpj cp'
                      have zb : b < w4.heap.size := by have := HB4.out.size; omega
                      have d2 : decide ((0 : Int) < (k : Int)) = true := by simp; omega
                      have d3 : decide (0 < k) = true := by simp; omega
                      have hsub : (k : Int) - 1 = (j : Int) := by omega
                      have hwr : IntKind.i64.wrap (j : Int) = (j : Int) := by rw [IntKind.wrap_i64]; omega
                      have hwr2 : IntKind.i64.wrap ((k : Int) - 1) = (j : Int) := by rw [hsub]; exact hwr
                      have q1 : (0 : Int) ≤ (j : Int) := Int.natCast_nonneg _
                      have q2 : (j : Int) < (l.length : Int) := by omega
                      have HKJ := hid hj
                      obtain ⟨Bf, hBf⟩ : ∃ Bf, yes (cmpL ⟨p', fl', r', q', v'⟩ ⟨p, true, r, q, v⟩ < 0) = Bf := ⟨_, rfl⟩
                      have HBf := hid hBf
                      have HLB : Hid (∀ W, Below w4.heap.size w4 W → Calls Tryz.prog 62 #[.agg #[.slice pa' p'.length pc', .bool fl', .int .i64 r', .int .i64 q', .string v'], .agg #[.slice pa p.length pc, .bool true, .int .i64 r, .int .i64 q, .string v]] W fun e w' => e = .returned (.bool Bf) ∧ Below W.heap.size W w') := hid (fun W hB => by rw [← hBf]; exact l3Before pa' pa pc' pc p' p fl' true r' q' r q v' v W hpj hpk cp' cp cq' cq (HSJ.out.below hB) (HSK.out.below hB))
                      clear hBf hj hk0 c0 c1 c2 c3 c4 s' hy'
                      go_wp2_with fail
                      have HCS : Hid (∀ w', Below w4.heap.size w4 w' → (Below w4.heap.size w4 w' ∧ w'.cell? ⟨w.heap.size, 0, none⟩ = some (.slice (some ⟨b, off, none⟩) l.length c) ∧ w'.cell? ⟨wr.heap.size, 0, none⟩ = some (.slice pa p.length pc) ∧ w'.cell? ⟨wr.heap.size, 1, none⟩ = some (.bool true) ∧ w'.cell? ⟨wr.heap.size, 2, none⟩ = some (.int .i64 r) ∧ w'.cell? ⟨wr.heap.size, 3, none⟩ = some (.int .i64 q) ∧ w'.cell? ⟨wr.heap.size, 4, none⟩ = some (.string v) ∧ w'.cell? ⟨b, off + j * 5, none⟩ = some (.slice pa' p'.length pc') ∧ w'.cell? ⟨b, off + j * 5 + 1, none⟩ = some (.bool fl') ∧ w'.cell? ⟨b, off + j * 5 + 2, none⟩ = some (.int .i64 r') ∧ w'.cell? ⟨b, off + j * 5 + 3, none⟩ = some (.int .i64 q') ∧ w'.cell? ⟨b, off + j * 5 + 4, none⟩ = some (.string v'))) := hid (fun w' hB => ⟨hB, (hB.cell (p := ⟨w.heap.size, 0, none⟩) zt).trans t0, (hB.cell (p := ⟨wr.heap.size, 0, none⟩) zy).trans y0, (hB.cell (p := ⟨wr.heap.size, 1, none⟩) zy).trans y1, (hB.cell (p := ⟨wr.heap.size, 2, none⟩) zy).trans y2, (hB.cell (p := ⟨wr.heap.size, 3, none⟩) zy).trans y3, (hB.cell (p := ⟨wr.heap.size, 4, none⟩) zy).trans y4, (hB.cell (p := ⟨b, off + j * 5, none⟩) zb).trans j0, (hB.cell (p := ⟨b, off + j * 5 + 1, none⟩) zb).trans j1, (hB.cell (p := ⟨b, off + j * 5 + 2, none⟩) zb).trans j2, (hB.cell (p := ⟨b, off + j * 5 + 3, none⟩) zb).trans j3, (hB.cell (p := ⟨b, off + j * 5 + 4, none⟩) zb).trans j4⟩)
                      refine wp_region_held_drew (S := fun w' => Below w4.heap.size w4 w' ∧ w'.cell? ⟨w.heap.size, 0, none⟩ = some (.slice (some ⟨b, off, none⟩) l.length c) ∧ w'.cell? ⟨wr.heap.size, 0, none⟩ = some (.slice pa p.length pc) ∧ w'.cell? ⟨wr.heap.size, 1, none⟩ = some (.bool true) ∧ w'.cell? ⟨wr.heap.size, 2, none⟩ = some (.int .i64 r) ∧ w'.cell? ⟨wr.heap.size, 3, none⟩ = some (.int .i64 q) ∧ w'.cell? ⟨wr.heap.size, 4, none⟩ = some (.string v) ∧ w'.cell? ⟨b, off + j * 5, none⟩ = some (.slice pa' p'.length pc') ∧ w'.cell? ⟨b, off + j * 5 + 1, none⟩ = some (.bool fl') ∧ w'.cell? ⟨b, off + j * 5 + 2, none⟩ = some (.int .i64 r') ∧ w'.cell? ⟨b, off + j * 5 + 3, none⟩ = some (.int .i64 q') ∧ w'.cell? ⟨b, off + j * 5 + 4, none⟩ = some (.string v')) (by kernel_rfl) (HCS.out _ (Below.refl _ _).drew) (fun hHeld => ?_)
                      refine take1 (i := 0) (d := some 55) (v := ?_) (by kernel_rfl) (by kernel_rfl) (by kernel_rfl) (by kernel_rfl) (fun _ _ _ h => h) ?_ hHeld ?_
                      rotate_left
                      · (intro o ho; simp only [List.getElem?_toArray, List.getElem?_cons_succ, List.getElem?_cons_zero, Option.some.injEq] at ho; subst ho; refine Or.inl ⟨by rfl, ?_⟩; intro w hSw; (try dsimp only at hSw); go_simp; try with_reducible rfl)
                      try simp only [Act.put, List.setIfInBounds_toArray, List.set_cons_zero, List.set_cons_succ]
                      refine take1 (i := 1) (d := some 56) (v := ?_) (by kernel_rfl) (by kernel_rfl) (by kernel_rfl) (by kernel_rfl) (fun _ _ _ h => h) ?_ hHeld ?_
                      rotate_left
                      · (intro o ho; simp only [List.getElem?_toArray, List.getElem?_cons_succ, List.getElem?_cons_zero, Option.some.injEq] at ho; subst ho; refine Or.inl ⟨by rfl, ?_⟩; intro w hSw; (try dsimp only at hSw); go_simp; try with_reducible rfl)
                      try simp only [Act.put, List.setIfInBounds_toArray, List.set_cons_zero, List.set_cons_succ]
                      refine take1 (i := 2) (d := some 57) (v := ?_) (by kernel_rfl) (by kernel_rfl) (by kernel_rfl) (by kernel_rfl) (fun _ _ _ h => h) ?_ hHeld ?_
                      rotate_left
                      · (intro o ho; simp only [List.getElem?_toArray, List.getElem?_cons_succ, List.getElem?_cons_zero, Option.some.injEq] at ho; subst ho; refine Or.inl ⟨by rfl, ?_⟩; intro w hSw; (try dsimp only at hSw); go_simp; try with_reducible rfl)
                      try simp only [Act.put, List.setIfInBounds_toArray, List.set_cons_zero, List.set_cons_succ]
                      refine take1 (i := 3) (d := some 58) (v := ?_) (by kernel_rfl) (by kernel_rfl) (by kernel_rfl) (by kernel_rfl) (fun _ _ _ h => h) ?_ hHeld ?_
                      rotate_left
                      · (intro o ho; simp only [List.getElem?_toArray, List.getElem?_cons_succ, List.getElem?_cons_zero, Option.some.injEq] at ho; subst ho; refine Or.inl ⟨by rfl, ?_⟩; intro w hSw; (try dsimp only at hSw); go_simp; try with_reducible rfl)
                      try simp only [Act.put, List.setIfInBounds_toArray, List.set_cons_zero, List.set_cons_succ]
                      refine take1 (i := 4) (d := some 59) (v := ?_) (by kernel_rfl) (by kernel_rfl) (by kernel_rfl) (by kernel_rfl) (fun _ _ _ h => h) ?_ hHeld ?_
                      rotate_left
                      · (intro o ho; simp only [List.getElem?_toArray, List.getElem?_cons_succ, List.getElem?_cons_zero, Option.some.injEq] at ho; subst ho; refine Or.inl ⟨by rfl, ?_⟩; intro w hSw; (try dsimp only at hSw); go_simp; try with_reducible rfl)
                      try simp only [Act.put, List.setIfInBounds_toArray, List.set_cons_zero, List.set_cons_succ]
                      refine take1 (i := 5) (d := some 60) (v := ?_) (by kernel_rfl) (by kernel_rfl) (by kernel_rfl) (by kernel_rfl) (fun _ _ _ h => h) ?_ hHeld ?_
                      rotate_left
                      · (intro o ho; simp only [List.getElem?_toArray, List.getElem?_cons_succ, List.getElem?_cons_zero, Option.some.injEq] at ho; subst ho; refine Or.inl ⟨by rfl, ?_⟩; intro w hSw; (try dsimp only at hSw); go_simp; try with_reducible rfl)
                      try simp only [Act.put, List.setIfInBounds_toArray, List.set_cons_zero, List.set_cons_succ]
                      refine take1 (i := 6) (d := some 61) (v := ?_) (by kernel_rfl) (by kernel_rfl) (by kernel_rfl) (by kernel_rfl) (fun _ _ _ h => h) ?_ hHeld ?_
                      rotate_left
                      · (intro o ho; simp only [List.getElem?_toArray, List.getElem?_cons_succ, List.getElem?_cons_zero, Option.some.injEq] at ho; subst ho; refine Or.inl ⟨by rfl, ?_⟩; intro w hSw; (try dsimp only at hSw); go_simp; try with_reducible rfl)
                      try simp only [Act.put, List.setIfInBounds_toArray, List.set_cons_zero, List.set_cons_succ]
                      refine take1 (i := 7) (d := some 62) (v := ?_) (by kernel_rfl) (by kernel_rfl) (by kernel_rfl) (by kernel_rfl) (fun _ _ _ h => h) ?_ hHeld ?_
                      rotate_left
                      · (intro o ho; simp only [List.getElem?_toArray, List.getElem?_cons_succ, List.getElem?_cons_zero, Option.some.injEq] at ho; subst ho; refine Or.inl ⟨by rfl, ?_⟩; intro w hSw; (try dsimp only at hSw); go_simp; try with_reducible rfl)
                      try simp only [Act.put, List.setIfInBounds_toArray, List.set_cons_zero, List.set_cons_succ]
                      refine take1 (i := 8) (d := some 63) (v := ?_) (by kernel_rfl) (by kernel_rfl) (by kernel_rfl) (by kernel_rfl) (fun _ _ _ h => h) ?_ hHeld ?_
                      rotate_left
                      · (intro o ho; simp only [List.getElem?_toArray, List.getElem?_cons_succ, List.getElem?_cons_zero, Option.some.injEq] at ho; subst ho; refine Or.inl ⟨by rfl, ?_⟩; intro w hSw; (try dsimp only at hSw); go_simp; try with_reducible rfl)
                      try simp only [Act.put, List.setIfInBounds_toArray, List.set_cons_zero, List.set_cons_succ]
                      refine take1 (i := 9) (d := some 64) (v := ?_) (by kernel_rfl) (by kernel_rfl) (by kernel_rfl) (by kernel_rfl) (fun _ _ _ h => h) ?_ hHeld ?_
                      rotate_left
                      · (intro o ho; simp only [List.getElem?_toArray, List.getElem?_cons_succ, List.getElem?_cons_zero, Option.some.injEq] at ho; subst ho; refine Or.inl ⟨by rfl, ?_⟩; intro w hSw; (try dsimp only at hSw); go_simp; try with_reducible rfl)
                      try simp only [Act.put, List.setIfInBounds_toArray, List.set_cons_zero, List.set_cons_succ]
                      refine call1 (i := 10) (d := some 65) (by kernel_rfl) (by kernel_rfl) ?_
                      intro o ho hod K hK; simp only [List.getElem?_toArray, List.getElem?_cons_succ, List.getElem?_cons_zero, Option.some.injEq] at ho; subst ho
                      go_simp
                      refine (HLB.out _ hHeld.1).mono ?_
                      rintro e w5 ⟨rfl, b5⟩
                      have hB5 := hHeld.1.trans (b5.mono hHeld.1.size)
                      refine hK.out _ _ (HCS.out _ hB5) (fun hHeld => ?_)
                      clear hK K
                      try simp only [Act.put, List.setIfInBounds_toArray, List.set_cons_zero, List.set_cons_succ]
                      refine take1 (i := 11) (d := some 66) (v := ?_) (by kernel_rfl) (by kernel_rfl) (by kernel_rfl) (by kernel_rfl) (fun _ _ _ h => h) ?_ hHeld ?_
                      rotate_left
                      · (intro o ho; simp only [List.getElem?_toArray, List.getElem?_cons_succ, List.getElem?_cons_zero, Option.some.injEq] at ho; subst ho; refine Or.inl ⟨by rfl, ?_⟩; intro w hSw; (try dsimp only at hSw); go_simp; try with_reducible rfl)
                      try simp only [Act.put, List.setIfInBounds_toArray, List.set_cons_zero, List.set_cons_succ]
                      refine take1 (i := 12) (d := some 67) (v := ?_) (by kernel_rfl) (by kernel_rfl) (by kernel_rfl) (by kernel_rfl) (fun _ _ _ h => h) ?_ hHeld ?_
                      rotate_left
                      · (intro o ho; simp only [List.getElem?_toArray, List.getElem?_cons_succ, List.getElem?_cons_zero, Option.some.injEq] at ho; subst ho; refine Or.inl ⟨by rfl, ?_⟩; intro w hSw; (try dsimp only at hSw); go_simp; try with_reducible rfl)
                      try simp only [Act.put, List.setIfInBounds_toArray, List.set_cons_zero, List.set_cons_succ]
                      refine wpAnyH_done (by kernel_rfl) ?_ _
                      have HB5 := hid (HB4.out.trans (hB5.mono HB4.out.size))
                      have t0 := (hB5.cell (p := ⟨w.heap.size, 0, none⟩) zt).trans t0
                      have y2 := (hB5.cell (p := ⟨wr.heap.size, 2, none⟩) zy).trans y2
                      have y3 := (hB5.cell (p := ⟨wr.heap.size, 3, none⟩) zy).trans y3
                      have zt : w.heap.size < w5.heap.size := Nat.lt_of_lt_of_le zt hB5.size
                      have zy : wr.heap.size < w5.heap.size := Nat.lt_of_lt_of_le zy hB5.size
                      clear hHeld hB5 b5 HCS HLB j0 j1 j2 j3 j4 y0 y1 y4 hsub hwr hwr2 d2 d3 HSJ HSK HB4 HBF4 q1 q2 zb
                      cases Bf with
                      | false =>
                        have HF := hid (HNO.out (fun h => by
                          have e := h.2.2 (by have := HKJ.out; omega)
                          rw [show k - 1 = j by have := HKJ.out; omega, HEJ.out] at e
                          have := yes_t e; rw [HBf.out] at this; cases this))
                        have HZ := hid (HB1.out.trans (HB5.out.mono HB1.out.size))
                        clear HNO HCC
                        go_wp2_with fail
                        go_ret
                        exact ⟨ret_b HF.out.symm, HZ.out⟩
                      | true =>
                        have HORD : Hid (0 < k → cmpL (gL l (k - 1)) ⟨p, true, r, q, v⟩ < 0) := hid (fun _ => by
                          rw [show k - 1 = j by have := HKJ.out; omega, HEJ.out]; exact yes_iff.1 HBf.out)
                        have HY2 : Hid (∀ wi, Below w5.heap.size w5 wi → wi.cell? ⟨wr.heap.size, 2, none⟩ = some (.int .i64 r)) := hid (fun wi h => (h.cell (p := ⟨wr.heap.size, 2, none⟩) zy).trans y2)
                        have HY3 : Hid (∀ wi, Below w5.heap.size w5 wi → wi.cell? ⟨wr.heap.size, 3, none⟩ = some (.int .i64 q)) := hid (fun wi h => (h.cell (p := ⟨wr.heap.size, 3, none⟩) zy).trans y3)
                        go_wp2_with fail
                        go_loopw [5] (fun i wi => ∃ j : Nat, j ≤ k ∧ i = .int .i64 j ∧ Hid (Below w5.heap.size w5 wi) ∧ Hid (∀ t, t < j → Dif (gL l t) (gL l k))) (fun i _ => k - (intOf i).toNat)
                        case atStart => exact ⟨0, Nat.zero_le _, rfl, hid (Below.refl _ _), hid (fun t ht => by omega)⟩
                        case round =>
                          obtain ⟨j, hj, rfl, HBI, HDI⟩ := hrel
                          have g0 := (HBI.out.cell (p := ⟨w.heap.size, 0, none⟩) zt).trans t0
                          have g2 := HY2.out _ HBI.out
                          have g3 := HY3.out _ HBI.out
                          by_cases hjk : j < k
                          · obtain ⟨ja, jc, _, _, _, c2, c3, _⟩ := HCC.out j (by omega)
                            have j2 := (((HB5.out.trans (HBI.out.mono HB5.out.size)).cell (p := ⟨b, off + j * 5 + 2, none⟩) hb)).trans c2
                            have j3 := (((HB5.out.trans (HBI.out.mono HB5.out.size)).cell (p := ⟨b, off + j * 5 + 3, none⟩) hb)).trans c3
                            obtain ⟨yj, hyj⟩ : ∃ yj, gL l j = yj := ⟨_, rfl⟩
                            rw [hyj] at j2 j3
                            have HEJ := hid hyj
                            obtain ⟨pj, fj, rj, qj, vj⟩ := yj
                            dsimp only at j2 j3
                            have q1 : (0 : Int) ≤ (j : Int) := Int.natCast_nonneg _
                            have q2 : (j : Int) < (l.length : Int) := by omega
                            have q3 : (j : Int) < (k : Int) := by omega
                            have hG := dotGuard
                            have EQ : ∀ w : World, (binOp .eql 67 (.agg #[.int .i64 rj, .int .i64 qj]) (.agg #[.int .i64 r, .int .i64 q])).run Tryz.prog w = .ok (.bool (rj == r && qj == q)) w := fun w => eqlDot rj qj r q w
                            clear hyj c2 c3 t0 y2 y3
                            by_cases hr : rj = r
                            · have e1 : (rj == r) = true := by simpa using hr
                              by_cases hq : qj = q
                              · have e2 : (qj == q) = true := by simpa using hq
                                have EQ : ∀ w : World, (binOp .eql 67 (.agg #[.int .i64 rj, .int .i64 qj]) (.agg #[.int .i64 r, .int .i64 q])).run Tryz.prog w = .ok (.bool true) w := fun w => by rw [EQ w, e1, e2]; rfl
                                have HF : Hid (Y = false) := hid (by rw [← HY.out]; exact yes_f (fun h => h.2.2.2 k hlt j hjk (by rw [HEJ.out, HE.out]; exact ⟨hr, hq⟩)))
                                have HZ := hid (HB1.out.trans ((HB5.out.trans (HBI.out.mono HB5.out.size)).mono HB1.out.size))
                                clear HNO HDI HCC
                                go_wp2_with fail
                                go_quiet (fail)
                                go_wp2_with fail
                                go_ret
                                exact ⟨ret_b HF.out.symm, below_drewS HZ.out _⟩
                              · have e2 : (qj == q) = false := by simpa using hq
                                have EQ : ∀ w : World, (binOp .eql 67 (.agg #[.int .i64 rj, .int .i64 qj]) (.agg #[.int .i64 r, .int .i64 q])).run Tryz.prog w = .ok (.bool false) w := fun w => by rw [EQ w, e1, e2]; rfl
                                have HD : Hid (∀ t, t < j + 1 → Dif (gL l t) (gL l k)) := hid (fun t ht => by
                                  by_cases e : t = j
                                  · rw [e, HEJ.out, HE.out]; exact fun h => hq h.2
                                  · exact HDI.out t (by omega))
                                clear HNO HDI HCC
                                go_wp2_with fail
                                go_quiet (fail)
                                have HBN := hid (below_drewS HBI.out nq)
                                go_wp2_with fail
                                go_roundw
                                case rel => exact ⟨j + 1, hjk, by go_num, HBN, HD⟩
                                case measure => simp [intOf]; omega
                            · have e1 : (rj == r) = false := by simpa using hr
                              have EQ : ∀ w : World, (binOp .eql 67 (.agg #[.int .i64 rj, .int .i64 qj]) (.agg #[.int .i64 r, .int .i64 q])).run Tryz.prog w = .ok (.bool false) w := fun w => by rw [EQ w, e1]; rfl
                              have HD : Hid (∀ t, t < j + 1 → Dif (gL l t) (gL l k)) := hid (fun t ht => by
                                by_cases e : t = j
                                · rw [e, HEJ.out, HE.out]; exact fun h => hr h.1
                                · exact HDI.out t (by omega))
                              clear HNO HDI HCC
                              go_wp2_with fail
                              go_quiet (fail)
                              have HBN := hid (below_drewS HBI.out nq)
                              go_wp2_with fail
                              go_roundw
                              case rel => exact ⟨j + 1, hjk, by go_num, HBN, HD⟩
                              case measure => simp [intOf]; omega
                          · obtain rfl : j = k := by omega
                            have HN : Hid (LvOk R F T n l (j + 1) ∧ Dis l (j + 1)) := hid ⟨HI.out.1.step (by rw [HE.out]; exact HOK.out) (by rw [HE.out]; exact HHAS.out) (fun h => by rw [HE.out]; exact HORD.out h), HI.out.2.step HDI.out⟩
                            have HZ := hid (HB5.out.trans (HBI.out.mono HB5.out.size))
                            clear HNO HDI HCC t0 y2 y3 g0 g2 g3
                            go_wp2_with fail
                            go_roundw
                            case rel => exact ⟨j + 1, hlt, by go_num, HZ, HN⟩
                            case measure => simp [intOf]; omega
                | false =>
                  go_wp2_with fail
                  refine HA.out.mono ?_
                  rintro e w4 ⟨rfl, b4⟩
                  have zt : w.heap.size < w4.heap.size := by have := b4.size; omega
                  have zy : wr.heap.size < w4.heap.size := by have := b4.size; omega
                  have B4 := HB5.out.below b4 z2
                  have t0 := (b4.cell (p := ⟨w.heap.size, 0, none⟩) (show w.heap.size < w3.heap.size by omega)).trans t0
                  have y0 := B4.c0
                  have y1 := B4.c1
                  have y2 := B4.c2
                  have y3 := B4.c3
                  have y4 := B4.c4
                  have HB4 := hid (HB2.out.trans (b4.mono HB2.out.size))
                  have HSK := hid (HSP.out.below b4)
                  have HBF4 := hid (HB1.out.trans (HB4.out.mono HB1.out.size))
                  clear B4 b4 t1 HB5 HSP HBF
                  obtain ⟨A, hA⟩ : ∃ A, hasK R F T r q q n = A := ⟨_, rfl⟩
                  have HHAS := hid hA
                  rw [hA]
                  clear hA
                  cases A with
                  | false =>
                    have HF := hid (HNO.out (fun h => by have := h.2.1; rw [HHAS.out] at this; cases this))
                    clear HNO HCC
                    go_wp2_with fail
                    go_ret
                    exact ⟨ret_b HF.out.symm, HBF4.out⟩
                  | true =>
                    by_cases hk0 : k = 0
                    · have d2 : decide ((0 : Int) < (k : Int)) = false := by simp; omega
                      have d3 : decide (0 < k) = false := by simp; omega
                      have HORD : Hid (0 < k → cmpL (gL l (k - 1)) ⟨p, false, r, q, v⟩ < 0) := hid (fun h => by omega)
                      clear hk0
                      go_wp2_with fail
                      go_quiet (fail)
                      obtain ⟨w5, hw5⟩ : ∃ w5, w4.drewN nq = w5 := ⟨_, rfl⟩
                      have HB5 : Hid (Below w1.heap.size w1 w5) := hid (by rw [← hw5]; exact below_drewS HB4.out _)
                      have t0 : w5.cell? ⟨w.heap.size, 0, none⟩ = some (.slice (some ⟨b, off, none⟩) l.length c) := by rw [← hw5]; exact t0
                      have y2 : w5.cell? ⟨wr.heap.size, 2, none⟩ = some (.int .i64 r) := by rw [← hw5]; exact y2
                      have y3 : w5.cell? ⟨wr.heap.size, 3, none⟩ = some (.int .i64 q) := by rw [← hw5]; exact y3
                      have zt : w.heap.size < w5.heap.size := by rw [← hw5]; exact zt
                      have zy : wr.heap.size < w5.heap.size := by rw [← hw5]; exact zy
                      rw [hw5]
                      clear hw5 d2 d3 HB4 HBF4 HSK y0 y1 y4
                      have HY2 : Hid (∀ wi, Below w5.heap.size w5 wi → wi.cell? ⟨wr.heap.size, 2, none⟩ = some (.int .i64 r)) := hid (fun wi h => (h.cell (p := ⟨wr.heap.size, 2, none⟩) zy).trans y2)
                      have HY3 : Hid (∀ wi, Below w5.heap.size w5 wi → wi.cell? ⟨wr.heap.size, 3, none⟩ = some (.int .i64 q)) := hid (fun wi h => (h.cell (p := ⟨wr.heap.size, 3, none⟩) zy).trans y3)
                      go_wp2_with fail
                      go_loopw [5] (fun i wi => ∃ j : Nat, j ≤ k ∧ i = .int .i64 j ∧ Hid (Below w5.heap.size w5 wi) ∧ Hid (∀ t, t < j → Dif (gL l t) (gL l k))) (fun i _ => k - (intOf i).toNat)
                      case atStart => exact ⟨0, Nat.zero_le _, rfl, hid (Below.refl _ _), hid (fun t ht => by omega)⟩
                      case round =>
                        obtain ⟨j, hj, rfl, HBI, HDI⟩ := hrel
                        have g0 := (HBI.out.cell (p := ⟨w.heap.size, 0, none⟩) zt).trans t0
                        have g2 := HY2.out _ HBI.out
                        have g3 := HY3.out _ HBI.out
                        by_cases hjk : j < k
                        · obtain ⟨ja, jc, _, _, _, c2, c3, _⟩ := HCC.out j (by omega)
                          have j2 := (((HB5.out.trans (HBI.out.mono HB5.out.size)).cell (p := ⟨b, off + j * 5 + 2, none⟩) hb)).trans c2
                          have j3 := (((HB5.out.trans (HBI.out.mono HB5.out.size)).cell (p := ⟨b, off + j * 5 + 3, none⟩) hb)).trans c3
                          obtain ⟨yj, hyj⟩ : ∃ yj, gL l j = yj := ⟨_, rfl⟩
                          rw [hyj] at j2 j3
                          have HEJ := hid hyj
                          obtain ⟨pj, fj, rj, qj, vj⟩ := yj
                          dsimp only at j2 j3
                          have q1 : (0 : Int) ≤ (j : Int) := Int.natCast_nonneg _
                          have q2 : (j : Int) < (l.length : Int) := by omega
                          have q3 : (j : Int) < (k : Int) := by omega
                          have hG := dotGuard
                          have EQ : ∀ w : World, (binOp .eql 67 (.agg #[.int .i64 rj, .int .i64 qj]) (.agg #[.int .i64 r, .int .i64 q])).run Tryz.prog w = .ok (.bool (rj == r && qj == q)) w := fun w => eqlDot rj qj r q w
                          clear hyj c2 c3 t0 y2 y3
                          by_cases hr : rj = r
                          · have e1 : (rj == r) = true := by simpa using hr
                            by_cases hq : qj = q
                            · have e2 : (qj == q) = true := by simpa using hq
                              have EQ : ∀ w : World, (binOp .eql 67 (.agg #[.int .i64 rj, .int .i64 qj]) (.agg #[.int .i64 r, .int .i64 q])).run Tryz.prog w = .ok (.bool true) w := fun w => by rw [EQ w, e1, e2]; rfl
                              have HF : Hid (Y = false) := hid (by rw [← HY.out]; exact yes_f (fun h => h.2.2.2 k hlt j hjk (by rw [HEJ.out, HE.out]; exact ⟨hr, hq⟩)))
                              have HZ := hid (HB1.out.trans ((HB5.out.trans (HBI.out.mono HB5.out.size)).mono HB1.out.size))
                              clear HNO HDI HCC
                              go_wp2_with fail
                              go_quiet (fail)
                              go_wp2_with fail
                              go_ret
                              exact ⟨ret_b HF.out.symm, below_drewS HZ.out _⟩
                            · have e2 : (qj == q) = false := by simpa using hq
                              have EQ : ∀ w : World, (binOp .eql 67 (.agg #[.int .i64 rj, .int .i64 qj]) (.agg #[.int .i64 r, .int .i64 q])).run Tryz.prog w = .ok (.bool false) w := fun w => by rw [EQ w, e1, e2]; rfl
                              have HD : Hid (∀ t, t < j + 1 → Dif (gL l t) (gL l k)) := hid (fun t ht => by
                                by_cases e : t = j
                                · rw [e, HEJ.out, HE.out]; exact fun h => hq h.2
                                · exact HDI.out t (by omega))
                              clear HNO HDI HCC
                              go_wp2_with fail
                              go_quiet (fail)
                              have HBN := hid (below_drewS HBI.out nq)
                              go_wp2_with fail
                              go_roundw
                              case rel => exact ⟨j + 1, hjk, by go_num, HBN, HD⟩
                              case measure => simp [intOf]; omega
                          · have e1 : (rj == r) = false := by simpa using hr
                            have EQ : ∀ w : World, (binOp .eql 67 (.agg #[.int .i64 rj, .int .i64 qj]) (.agg #[.int .i64 r, .int .i64 q])).run Tryz.prog w = .ok (.bool false) w := fun w => by rw [EQ w, e1]; rfl
                            have HD : Hid (∀ t, t < j + 1 → Dif (gL l t) (gL l k)) := hid (fun t ht => by
                              by_cases e : t = j
                              · rw [e, HEJ.out, HE.out]; exact fun h => hr h.1
                              · exact HDI.out t (by omega))
                            clear HNO HDI HCC
                            go_wp2_with fail
                            go_quiet (fail)
                            have HBN := hid (below_drewS HBI.out nq)
                            go_wp2_with fail
                            go_roundw
                            case rel => exact ⟨j + 1, hjk, by go_num, HBN, HD⟩
                            case measure => simp [intOf]; omega
                        · obtain rfl : j = k := by omega
                          have HN : Hid (LvOk R F T n l (j + 1) ∧ Dis l (j + 1)) := hid ⟨HI.out.1.step (by rw [HE.out]; exact HOK.out) (by rw [HE.out]; exact HHAS.out) (fun h => by rw [HE.out]; exact HORD.out h), HI.out.2.step HDI.out⟩
                          have HZ := hid (HB5.out.trans (HBI.out.mono HB5.out.size))
                          clear HNO HDI HCC t0 y2 y3 g0 g2 g3
                          go_wp2_with fail
                          go_roundw
                          case rel => exact ⟨j + 1, hlt, by go_num, HZ, HN⟩
                          case measure => simp [intOf]; omega
                    · obtain ⟨j, hj⟩ : ∃ j, k = j + 1 := ⟨k - 1, by omega⟩
                      obtain ⟨pa', pc', ⟨c0, cp', cq'⟩, s', c1, c2, c3, c4⟩ := HCC.out j (by omega)
                      have q' := fun (o : Nat) => HB4.out.cell (p := ⟨b, o, none⟩) hb
                      have j0 := (q' _).trans c0
                      have j1 := (q' _).trans c1
                      have j2 := (q' _).trans c2
                      have j3 := (q' _).trans c3
                      have j4 := (q' _).trans c4
                      have HSJ := hid (s'.below HB4.out)
                      have hpj := hp j
                      obtain ⟨y', hy'⟩ : ∃ y', gL l j = y' := ⟨_, rfl⟩
                      rw [hy'] at j0 j1 j2 j3 j4 HSJ hpj cp'
                      have HEJ := hid hy'
                      obtain ⟨p', fl', r', q', v'⟩ := y'
                      dsimp only at j0 j1 j2 j3 j4 HSJ hpj cp'
                      have zb : b < w4.heap.size := by have := HB4.out.size; omega
                      have d2 : decide ((0 : Int) < (k : Int)) = true := by simp; omega
                      have d3 : decide (0 < k) = true := by simp; omega
                      have hsub : (k : Int) - 1 = (j : Int) := by omega
                      have hwr : IntKind.i64.wrap (j : Int) = (j : Int) := by rw [IntKind.wrap_i64]; omega
                      have hwr2 : IntKind.i64.wrap ((k : Int) - 1) = (j : Int) := by rw [hsub]; exact hwr
                      have q1 : (0 : Int) ≤ (j : Int) := Int.natCast_nonneg _
                      have q2 : (j : Int) < (l.length : Int) := by omega
                      have HKJ := hid hj
                      obtain ⟨Bf, hBf⟩ : ∃ Bf, yes (cmpL ⟨p', fl', r', q', v'⟩ ⟨p, false, r, q, v⟩ < 0) = Bf := ⟨_, rfl⟩
                      have HBf := hid hBf
                      have HLB : Hid (∀ W, Below w4.heap.size w4 W → Calls Tryz.prog 62 #[.agg #[.slice pa' p'.length pc', .bool fl', .int .i64 r', .int .i64 q', .string v'], .agg #[.slice pa p.length pc, .bool false, .int .i64 r, .int .i64 q, .string v]] W fun e w' => e = .returned (.bool Bf) ∧ Below W.heap.size W w') := hid (fun W hB => by rw [← hBf]; exact l3Before pa' pa pc' pc p' p fl' false r' q' r q v' v W hpj hpk cp' cp cq' cq (HSJ.out.below hB) (HSK.out.below hB))
                      clear hBf hj hk0 c0 c1 c2 c3 c4 s' hy'
                      go_wp2_with fail
                      have HCS : Hid (∀ w', Below w4.heap.size w4 w' → (Below w4.heap.size w4 w' ∧ w'.cell? ⟨w.heap.size, 0, none⟩ = some (.slice (some ⟨b, off, none⟩) l.length c) ∧ w'.cell? ⟨wr.heap.size, 0, none⟩ = some (.slice pa p.length pc) ∧ w'.cell? ⟨wr.heap.size, 1, none⟩ = some (.bool false) ∧ w'.cell? ⟨wr.heap.size, 2, none⟩ = some (.int .i64 r) ∧ w'.cell? ⟨wr.heap.size, 3, none⟩ = some (.int .i64 q) ∧ w'.cell? ⟨wr.heap.size, 4, none⟩ = some (.string v) ∧ w'.cell? ⟨b, off + j * 5, none⟩ = some (.slice pa' p'.length pc') ∧ w'.cell? ⟨b, off + j * 5 + 1, none⟩ = some (.bool fl') ∧ w'.cell? ⟨b, off + j * 5 + 2, none⟩ = some (.int .i64 r') ∧ w'.cell? ⟨b, off + j * 5 + 3, none⟩ = some (.int .i64 q') ∧ w'.cell? ⟨b, off + j * 5 + 4, none⟩ = some (.string v'))) := hid (fun w' hB => ⟨hB, (hB.cell (p := ⟨w.heap.size, 0, none⟩) zt).trans t0, (hB.cell (p := ⟨wr.heap.size, 0, none⟩) zy).trans y0, (hB.cell (p := ⟨wr.heap.size, 1, none⟩) zy).trans y1, (hB.cell (p := ⟨wr.heap.size, 2, none⟩) zy).trans y2, (hB.cell (p := ⟨wr.heap.size, 3, none⟩) zy).trans y3, (hB.cell (p := ⟨wr.heap.size, 4, none⟩) zy).trans y4, (hB.cell (p := ⟨b, off + j * 5, none⟩) zb).trans j0, (hB.cell (p := ⟨b, off + j * 5 + 1, none⟩) zb).trans j1, (hB.cell (p := ⟨b, off + j * 5 + 2, none⟩) zb).trans j2, (hB.cell (p := ⟨b, off + j * 5 + 3, none⟩) zb).trans j3, (hB.cell (p := ⟨b, off + j * 5 + 4, none⟩) zb).trans j4⟩)
                      refine wp_region_held_drew (S := fun w' => Below w4.heap.size w4 w' ∧ w'.cell? ⟨w.heap.size, 0, none⟩ = some (.slice (some ⟨b, off, none⟩) l.length c) ∧ w'.cell? ⟨wr.heap.size, 0, none⟩ = some (.slice pa p.length pc) ∧ w'.cell? ⟨wr.heap.size, 1, none⟩ = some (.bool false) ∧ w'.cell? ⟨wr.heap.size, 2, none⟩ = some (.int .i64 r) ∧ w'.cell? ⟨wr.heap.size, 3, none⟩ = some (.int .i64 q) ∧ w'.cell? ⟨wr.heap.size, 4, none⟩ = some (.string v) ∧ w'.cell? ⟨b, off + j * 5, none⟩ = some (.slice pa' p'.length pc') ∧ w'.cell? ⟨b, off + j * 5 + 1, none⟩ = some (.bool fl') ∧ w'.cell? ⟨b, off + j * 5 + 2, none⟩ = some (.int .i64 r') ∧ w'.cell? ⟨b, off + j * 5 + 3, none⟩ = some (.int .i64 q') ∧ w'.cell? ⟨b, off + j * 5 + 4, none⟩ = some (.string v')) (by kernel_rfl) (HCS.out _ (Below.refl _ _).drew) (fun hHeld => ?_)
                      refine take1 (i := 0) (d := some 55) (v := ?_) (by kernel_rfl) (by kernel_rfl) (by kernel_rfl) (by kernel_rfl) (fun _ _ _ h => h) ?_ hHeld ?_
                      rotate_left
                      · (intro o ho; simp only [List.getElem?_toArray, List.getElem?_cons_succ, List.getElem?_cons_zero, Option.some.injEq] at ho; subst ho; refine Or.inl ⟨by rfl, ?_⟩; intro w hSw; (try dsimp only at hSw); go_simp; try with_reducible rfl)
                      try simp only [Act.put, List.setIfInBounds_toArray, List.set_cons_zero, List.set_cons_succ]
                      refine take1 (i := 1) (d := some 56) (v := ?_) (by kernel_rfl) (by kernel_rfl) (by kernel_rfl) (by kernel_rfl) (fun _ _ _ h => h) ?_ hHeld ?_
                      rotate_left
                      · (intro o ho; simp only [List.getElem?_toArray, List.getElem?_cons_succ, List.getElem?_cons_zero, Option.some.injEq] at ho; subst ho; refine Or.inl ⟨by rfl, ?_⟩; intro w hSw; (try dsimp only at hSw); go_simp; try with_reducible rfl)
                      try simp only [Act.put, List.setIfInBounds_toArray, List.set_cons_zero, List.set_cons_succ]
                      refine take1 (i := 2) (d := some 57) (v := ?_) (by kernel_rfl) (by kernel_rfl) (by kernel_rfl) (by kernel_rfl) (fun _ _ _ h => h) ?_ hHeld ?_
                      rotate_left
                      · (intro o ho; simp only [List.getElem?_toArray, List.getElem?_cons_succ, List.getElem?_cons_zero, Option.some.injEq] at ho; subst ho; refine Or.inl ⟨by rfl, ?_⟩; intro w hSw; (try dsimp only at hSw); go_simp; try with_reducible rfl)
                      try simp only [Act.put, List.setIfInBounds_toArray, List.set_cons_zero, List.set_cons_succ]
                      refine take1 (i := 3) (d := some 58) (v := ?_) (by kernel_rfl) (by kernel_rfl) (by kernel_rfl) (by kernel_rfl) (fun _ _ _ h => h) ?_ hHeld ?_
                      rotate_left
                      · (intro o ho; simp only [List.getElem?_toArray, List.getElem?_cons_succ, List.getElem?_cons_zero, Option.some.injEq] at ho; subst ho; refine Or.inl ⟨by rfl, ?_⟩; intro w hSw; (try dsimp only at hSw); go_simp; try with_reducible rfl)
                      try simp only [Act.put, List.setIfInBounds_toArray, List.set_cons_zero, List.set_cons_succ]
                      refine take1 (i := 4) (d := some 59) (v := ?_) (by kernel_rfl) (by kernel_rfl) (by kernel_rfl) (by kernel_rfl) (fun _ _ _ h => h) ?_ hHeld ?_
                      rotate_left
                      · (intro o ho; simp only [List.getElem?_toArray, List.getElem?_cons_succ, List.getElem?_cons_zero, Option.some.injEq] at ho; subst ho; refine Or.inl ⟨by rfl, ?_⟩; intro w hSw; (try dsimp only at hSw); go_simp; try with_reducible rfl)
                      try simp only [Act.put, List.setIfInBounds_toArray, List.set_cons_zero, List.set_cons_succ]
                      refine take1 (i := 5) (d := some 60) (v := ?_) (by kernel_rfl) (by kernel_rfl) (by kernel_rfl) (by kernel_rfl) (fun _ _ _ h => h) ?_ hHeld ?_
                      rotate_left
                      · (intro o ho; simp only [List.getElem?_toArray, List.getElem?_cons_succ, List.getElem?_cons_zero, Option.some.injEq] at ho; subst ho; refine Or.inl ⟨by rfl, ?_⟩; intro w hSw; (try dsimp only at hSw); go_simp; try with_reducible rfl)
                      try simp only [Act.put, List.setIfInBounds_toArray, List.set_cons_zero, List.set_cons_succ]
                      refine take1 (i := 6) (d := some 61) (v := ?_) (by kernel_rfl) (by kernel_rfl) (by kernel_rfl) (by kernel_rfl) (fun _ _ _ h => h) ?_ hHeld ?_
                      rotate_left
                      · (intro o ho; simp only [List.getElem?_toArray, List.getElem?_cons_succ, List.getElem?_cons_zero, Option.some.injEq] at ho; subst ho; refine Or.inl ⟨by rfl, ?_⟩; intro w hSw; (try dsimp only at hSw); go_simp; try with_reducible rfl)
                      try simp only [Act.put, List.setIfInBounds_toArray, List.set_cons_zero, List.set_cons_succ]
                      refine take1 (i := 7) (d := some 62) (v := ?_) (by kernel_rfl) (by kernel_rfl) (by kernel_rfl) (by kernel_rfl) (fun _ _ _ h => h) ?_ hHeld ?_
                      rotate_left
                      · (intro o ho; simp only [List.getElem?_toArray, List.getElem?_cons_succ, List.getElem?_cons_zero, Option.some.injEq] at ho; subst ho; refine Or.inl ⟨by rfl, ?_⟩; intro w hSw; (try dsimp only at hSw); go_simp; try with_reducible rfl)
                      try simp only [Act.put, List.setIfInBounds_toArray, List.set_cons_zero, List.set_cons_succ]
                      refine take1 (i := 8) (d := some 63) (v := ?_) (by kernel_rfl) (by kernel_rfl) (by kernel_rfl) (by kernel_rfl) (fun _ _ _ h => h) ?_ hHeld ?_
                      rotate_left
                      · (intro o ho; simp only [List.getElem?_toArray, List.getElem?_cons_succ, List.getElem?_cons_zero, Option.some.injEq] at ho; subst ho; refine Or.inl ⟨by rfl, ?_⟩; intro w hSw; (try dsimp only at hSw); go_simp; try with_reducible rfl)
                      try simp only [Act.put, List.setIfInBounds_toArray, List.set_cons_zero, List.set_cons_succ]
                      refine take1 (i := 9) (d := some 64) (v := ?_) (by kernel_rfl) (by kernel_rfl) (by kernel_rfl) (by kernel_rfl) (fun _ _ _ h => h) ?_ hHeld ?_
                      rotate_left
                      · (intro o ho; simp only [List.getElem?_toArray, List.getElem?_cons_succ, List.getElem?_cons_zero, Option.some.injEq] at ho; subst ho; refine Or.inl ⟨by rfl, ?_⟩; intro w hSw; (try dsimp only at hSw); go_simp; try with_reducible rfl)
                      try simp only [Act.put, List.setIfInBounds_toArray, List.set_cons_zero, List.set_cons_succ]
                      refine call1 (i := 10) (d := some 65) (by kernel_rfl) (by kernel_rfl) ?_
                      intro o ho hod K hK; simp only [List.getElem?_toArray, List.getElem?_cons_succ, List.getElem?_cons_zero, Option.some.injEq] at ho; subst ho
                      go_simp
                      refine (HLB.out _ hHeld.1).mono ?_
                      rintro e w5 ⟨rfl, b5⟩
                      have hB5 := hHeld.1.trans (b5.mono hHeld.1.size)
                      refine hK.out _ _ (HCS.out _ hB5) (fun hHeld => ?_)
                      clear hK K
                      try simp only [Act.put, List.setIfInBounds_toArray, List.set_cons_zero, List.set_cons_succ]
                      refine take1 (i := 11) (d := some 66) (v := ?_) (by kernel_rfl) (by kernel_rfl) (by kernel_rfl) (by kernel_rfl) (fun _ _ _ h => h) ?_ hHeld ?_
                      rotate_left
                      · (intro o ho; simp only [List.getElem?_toArray, List.getElem?_cons_succ, List.getElem?_cons_zero, Option.some.injEq] at ho; subst ho; refine Or.inl ⟨by rfl, ?_⟩; intro w hSw; (try dsimp only at hSw); go_simp; try with_reducible rfl)
                      try simp only [Act.put, List.setIfInBounds_toArray, List.set_cons_zero, List.set_cons_succ]
                      refine take1 (i := 12) (d := some 67) (v := ?_) (by kernel_rfl) (by kernel_rfl) (by kernel_rfl) (by kernel_rfl) (fun _ _ _ h => h) ?_ hHeld ?_
                      rotate_left
                      · (intro o ho; simp only [List.getElem?_toArray, List.getElem?_cons_succ, List.getElem?_cons_zero, Option.some.injEq] at ho; subst ho; refine Or.inl ⟨by rfl, ?_⟩; intro w hSw; (try dsimp only at hSw); go_simp; try with_reducible rfl)
                      try simp only [Act.put, List.setIfInBounds_toArray, List.set_cons_zero, List.set_cons_succ]
                      refine wpAnyH_done (by kernel_rfl) ?_ _
                      have HB5 := hid (HB4.out.trans (hB5.mono HB4.out.size))
                      have t0 := (hB5.cell (p := ⟨w.heap.size, 0, none⟩) zt).trans t0
                      have y2 := (hB5.cell (p := ⟨wr.heap.size, 2, none⟩) zy).trans y2
                      have y3 := (hB5.cell (p := ⟨wr.heap.size, 3, none⟩) zy).trans y3
                      have zt : w.heap.size < w5.heap.size := Nat.lt_of_lt_of_le zt hB5.size
                      have zy : wr.heap.size < w5.heap.size := Nat.lt_of_lt_of_le zy hB5.size
                      clear hHeld hB5 b5 HCS HLB j0 j1 j2 j3 j4 y0 y1 y4 hsub hwr hwr2 d2 d3 HSJ HSK HB4 HBF4 q1 q2 zb
                      cases Bf with
                      | false =>
                        have HF := hid (HNO.out (fun h => by
                          have e := h.2.2 (by have := HKJ.out; omega)
                          rw [show k - 1 = j by have := HKJ.out; omega, HEJ.out] at e
                          have := yes_t e; rw [HBf.out] at this; cases this))
                        have HZ := hid (HB1.out.trans (HB5.out.mono HB1.out.size))
                        clear HNO HCC
                        go_wp2_with fail
                        go_ret
                        exact ⟨ret_b HF.out.symm, HZ.out⟩
                      | true =>
                        have HORD : Hid (0 < k → cmpL (gL l (k - 1)) ⟨p, false, r, q, v⟩ < 0) := hid (fun _ => by
                          rw [show k - 1 = j by have := HKJ.out; omega, HEJ.out]; exact yes_iff.1 HBf.out)
                        have HY2 : Hid (∀ wi, Below w5.heap.size w5 wi → wi.cell? ⟨wr.heap.size, 2, none⟩ = some (.int .i64 r)) := hid (fun wi h => (h.cell (p := ⟨wr.heap.size, 2, none⟩) zy).trans y2)
                        have HY3 : Hid (∀ wi, Below w5.heap.size w5 wi → wi.cell? ⟨wr.heap.size, 3, none⟩ = some (.int .i64 q)) := hid (fun wi h => (h.cell (p := ⟨wr.heap.size, 3, none⟩) zy).trans y3)
                        go_wp2_with fail
                        go_loopw [5] (fun i wi => ∃ j : Nat, j ≤ k ∧ i = .int .i64 j ∧ Hid (Below w5.heap.size w5 wi) ∧ Hid (∀ t, t < j → Dif (gL l t) (gL l k))) (fun i _ => k - (intOf i).toNat)
                        case atStart => exact ⟨0, Nat.zero_le _, rfl, hid (Below.refl _ _), hid (fun t ht => by omega)⟩
                        case round =>
                          obtain ⟨j, hj, rfl, HBI, HDI⟩ := hrel
                          have g0 := (HBI.out.cell (p := ⟨w.heap.size, 0, none⟩) zt).trans t0
                          have g2 := HY2.out _ HBI.out
                          have g3 := HY3.out _ HBI.out
                          by_cases hjk : j < k
                          · obtain ⟨ja, jc, _, _, _, c2, c3, _⟩ := HCC.out j (by omega)
                            have j2 := (((HB5.out.trans (HBI.out.mono HB5.out.size)).cell (p := ⟨b, off + j * 5 + 2, none⟩) hb)).trans c2
                            have j3 := (((HB5.out.trans (HBI.out.mono HB5.out.size)).cell (p := ⟨b, off + j * 5 + 3, none⟩) hb)).trans c3
                            obtain ⟨yj, hyj⟩ : ∃ yj, gL l j = yj := ⟨_, rfl⟩
                            rw [hyj] at j2 j3
                            have HEJ := hid hyj
                            obtain ⟨pj, fj, rj, qj, vj⟩ := yj
                            dsimp only at j2 j3
                            have q1 : (0 : Int) ≤ (j : Int) := Int.natCast_nonneg _
                            have q2 : (j : Int) < (l.length : Int) := by omega
                            have q3 : (j : Int) < (k : Int) := by omega
                            have hG := dotGuard
                            have EQ : ∀ w : World, (binOp .eql 67 (.agg #[.int .i64 rj, .int .i64 qj]) (.agg #[.int .i64 r, .int .i64 q])).run Tryz.prog w = .ok (.bool (rj == r && qj == q)) w := fun w => eqlDot rj qj r q w
                            clear hyj c2 c3 t0 y2 y3
                            by_cases hr : rj = r
                            · have e1 : (rj == r) = true := by simpa using hr
                              by_cases hq : qj = q
                              · have e2 : (qj == q) = true := by simpa using hq
                                have EQ : ∀ w : World, (binOp .eql 67 (.agg #[.int .i64 rj, .int .i64 qj]) (.agg #[.int .i64 r, .int .i64 q])).run Tryz.prog w = .ok (.bool true) w := fun w => by rw [EQ w, e1, e2]; rfl
                                have HF : Hid (Y = false) := hid (by rw [← HY.out]; exact yes_f (fun h => h.2.2.2 k hlt j hjk (by rw [HEJ.out, HE.out]; exact ⟨hr, hq⟩)))
                                have HZ := hid (HB1.out.trans ((HB5.out.trans (HBI.out.mono HB5.out.size)).mono HB1.out.size))
                                clear HNO HDI HCC
                                go_wp2_with fail
                                go_quiet (fail)
                                go_wp2_with fail
                                go_ret
                                exact ⟨ret_b HF.out.symm, below_drewS HZ.out _⟩
                              · have e2 : (qj == q) = false := by simpa using hq
                                have EQ : ∀ w : World, (binOp .eql 67 (.agg #[.int .i64 rj, .int .i64 qj]) (.agg #[.int .i64 r, .int .i64 q])).run Tryz.prog w = .ok (.bool false) w := fun w => by rw [EQ w, e1, e2]; rfl
                                have HD : Hid (∀ t, t < j + 1 → Dif (gL l t) (gL l k)) := hid (fun t ht => by
                                  by_cases e : t = j
                                  · rw [e, HEJ.out, HE.out]; exact fun h => hq h.2
                                  · exact HDI.out t (by omega))
                                clear HNO HDI HCC
                                go_wp2_with fail
                                go_quiet (fail)
                                have HBN := hid (below_drewS HBI.out nq)
                                go_wp2_with fail
                                go_roundw
                                case rel => exact ⟨j + 1, hjk, by go_num, HBN, HD⟩
                                case measure => simp [intOf]; omega
                            · have e1 : (rj == r) = false := by simpa using hr
                              have EQ : ∀ w : World, (binOp .eql 67 (.agg #[.int .i64 rj, .int .i64 qj]) (.agg #[.int .i64 r, .int .i64 q])).run Tryz.prog w = .ok (.bool false) w := fun w => by rw [EQ w, e1]; rfl
                              have HD : Hid (∀ t, t < j + 1 → Dif (gL l t) (gL l k)) := hid (fun t ht => by
                                by_cases e : t = j
                                · rw [e, HEJ.out, HE.out]; exact fun h => hr h.1
                                · exact HDI.out t (by omega))
                              clear HNO HDI HCC
                              go_wp2_with fail
                              go_quiet (fail)
                              have HBN := hid (below_drewS HBI.out nq)
                              go_wp2_with fail
                              go_roundw
                              case rel => exact ⟨j + 1, hjk, by go_num, HBN, HD⟩
                              case measure => simp [intOf]; omega
                          · obtain rfl : j = k := by omega
                            have HN : Hid (LvOk R F T n l (j + 1) ∧ Dis l (j + 1)) := hid ⟨HI.out.1.step (by rw [HE.out]; exact HOK.out) (by rw [HE.out]; exact HHAS.out) (fun h => by rw [HE.out]; exact HORD.out h), HI.out.2.step HDI.out⟩
                            have HZ := hid (HB5.out.trans (HBI.out.mono HB5.out.size))
                            clear HNO HDI HCC t0 y2 y3 g0 g2 g3
                            go_wp2_with fail
                            go_roundw
                            case rel => exact ⟨j + 1, hlt, by go_num, HZ, HN⟩
                            case measure => simp [intOf]; omega
        · obtain rfl : k = l.length := by omega
          have HF : Hid (Y = true) := hid (by rw [← HY.out]; exact yes_t ⟨HC.out, by omega, HI.out.1, HI.out.2⟩)
          have HB := hid (HB1.out.trans (HBR.out.mono HB1.out.size))
          clear m0 m1
          go_wp2_with fail
          go_ret
          exact ⟨ret_b HF.out.symm, HB.out⟩
end Go.Proofs.YtdenbicnckkdfaaGreat
