import Derived.Test.YtakmpmhjcngbbaaGreatDoorMgg27
import Derived.Test.YtakmpmhjcngbbaaGreatDoorMgg01
import Derived.Test.YtakmpmhjcngbbaaGreatDoorMgg07
import Derived.Laws.BytesArg
import Derived.Laws.Concat
import Derived.Test.YtakmpmhjcngbbaaGreatDoorMgg15
set_option linter.unusedVariables false
set_option linter.unusedSimpArgs false
set_option maxRecDepth 100000
set_option maxHeartbeats 40000000
namespace Go.Proofs.YtakmpmhjcngbbaaGreatDoor
open Go.ChangeShapes Go.WideShapes Go.ChangeAt Go.RowKit Go.Maps
theorem rdKy_some {f : Nat → Int} (hf : Byt f) {n : Nat} {before y : Ky} {x x' : Nat} (h : rdKy f n before x = some (y, x')) : cmpK before y < 0 ∧ y.1.size ≤ 40 ∧ 0 ≤ y.2 ∧ y.2 < 256 := by
  unfold rdKy at h
  obtain ⟨a, h1, h⟩ := bind_some_iff.1 h
  have e1 := ((rdTx_iff hf (by decide) (s := a.1) (x' := a.2)).1 h1).1
  split at h
  · rename_i hy
    simp only [Option.some.injEq, Prod.mk.injEq] at h
    obtain ⟨rfl, _⟩ := h
    have hc : cmpK before (a.1, f a.2) < 0 := by
      by_cases e : a.1.size ≠ 0 ∧ a.2 < n ∧ cmpK before (a.1, f a.2) < 0
      · exact e.2.2
      · rw [yes_f e] at hy; cases hy
    have := hf a.2
    exact ⟨hc, by show a.1.size ≤ 40; omega, this.1, by have := this.2; omega⟩
  · cases h
theorem treeStep (tb B kb ub bs hi : Nat) (a : Option Addr) (n c : Nat) (f : Nat → Int) (aT aS aL aE : Addr) (L : Int → List (Int × Int)) (d : Nat) (p : List ByteArray) (hpd : p.length + d = 8) (hn : n ≤ 1048576) (hnc : n ≤ c) (hcc : c ≤ 4611686018427387904) (hf : Byt f) (hS : ∀ r, Srt (L r) ∧ (L r).length ≤ 1000000)
    (hrec : p.length < 8 → ∀ (s : ByteArray) (x : Nat) (acc : List Lf) (W : World), TS W tb B kb ub bs hi a n c f aT aS aL aE L (x : Int) acc → hi ≤ W.heap.size → acc.length ≤ 1000 → Calls Tryz.prog 30 #[.pointer (some ⟨tb, 0, none⟩), .int .i64 ((p.length : Int) + 1)] W fun e w' => NdP W tb B kb ub bs hi a n c f aT aS aL aE L acc (rdTr f n (fun r q => inB (L r) q q) d (p ++ [s]) acc x) (wayOf (p ++ [s]) 3) (d + 1) e w')
    (x : Nat) (acc : List Lf) (w : World) (hT : TS w tb B kb ub bs hi a n c f aT aS aL aE L (x : Int) acc) (hhi : hi ≤ w.heap.size) (hl : acc.length ≤ 1000) :
    Calls Tryz.prog 30 #[.pointer (some ⟨tb, 0, none⟩), .int .i64 (p.length : Int)] w fun e w' => NdP w tb B kb ub bs hi a n c f aT aS aL aE L acc (rdTr f n (fun r q => inB (L r) q q) (d + 1) p acc x) (wayOf p 3) (d + 2) e w' := by
  obtain ⟨P, hP⟩ : ∃ P, NdP w tb B kb ub bs hi a n c f aT aS aL aE L acc (rdTr f n (fun r q => inB (L r) q q) (d + 1) p acc x) (wayOf p 3) (d + 2) = P := ⟨_, rfl⟩
  rw [hP]
  have HP := hid hP
  clear hP
  obtain ⟨dp, hdp⟩ : ∃ dp : Int, (p.length : Int) = dp := ⟨_, rfl⟩
  rw [hdp] at hrec ⊢
  have dp0 : 0 ≤ dp := by omega
  have dp8 : dp ≤ 8 := by omega
  have HDp := hid (And.intro hdp hpd)
  have HRec := hid hrec
  clear hdp hpd hrec
  obtain ⟨W, hW⟩ : ∃ W, w.alloc (.cells #[.map none, .map none] 47) = W := ⟨_, rfl⟩
  have b0 : Below w.heap.size w W := by rw [← hW]; exact (Below.refl _ _).alloc (Nat.le_refl _) _
  have zW : W.heap.size = w.heap.size + 1 := by rw [← hW]; simp
  have HR0 : Hid (NB W w.heap.size) := hid (by rw [← hW]; exact NB.made _ _)
  have HT0 := hid (hT.below b0)
  have HG0 := hid (G2.below (tb := tb) (ub := ub) b0)
  have ht0 : tb < w.heap.size := hT.cur.lt
  have hu0 : ub < w.heap.size := hT.us.lt
  have hbt := hT.bt
  have HU := hid (numberC tb B a n c x 1000 f aT aS aL aE W hn hf HT0.out.cur HT0.out.seg (fun y hy => (hT.ab y hy).1) HT0.out.err hT.bt (by omega) (by omega))
  have HZ := hid zW
  have HF := hid hf
  have HS := hid hS
  have hwt : w.heap.size ≠ tb := by omega
  have hwu : w.heap.size ≠ ub := by omega
  have hww : w.heap.size ≤ w.heap.size := Nat.le_refl _
  clear hT b0 zW hf hS
  go_enter Tryz.func30, Tryz.ntmps30
  go_wp2_with fail
  try rw [hW]
  clear hW
  refine HU.out.mono ?_
  clear HU
  rintro e w1 ⟨g1, ⟨V, x1, hr, hV, rfl, cu⟩ | ⟨hr, t, v, y, rfl, cu⟩⟩
  · rw [rdI_nat] at hr
    have HT1 := hid (HT0.out.t g1 cu)
    have HG1 := hid (HG0.out.trans (G2.t g1))
    have HR1 := hid (HR0.out.g2 (G2.t (ub := ub) g1) hwt hwu)
    have HRd := hid hr
    clear g1 hr cu HT0 HG0 HR0
    by_cases hE1 : V = 0 ∧ 0 < dp
    · obtain ⟨h0, hd0⟩ := hE1
      subst h0
      have HN : Hid (rdTr f n (fun r q => inB (L r) q q) (d + 1) p acc x = none) := hid (by
        unfold rdTr; rw [HRd.out]; simp only [Option.bind_some]; rw [if_pos trivial, if_neg (by have := HDp.out.1; omega)])
      obtain ⟨ev, ge⟩ := HT1.out.err.x5
      have lo : 2 < w.heap.size := Nat.lt_of_lt_of_le (Nat.lt_of_lt_of_le (by decide) HT1.out.err.lG) (Nat.le_trans hbt (Nat.le_of_lt ht0))
      obtain ⟨u0, k0⟩ := HR1.out.c0
      obtain ⟨u1, k1⟩ := HR1.out.c1
      have f0 := HR1.out.f0
      have ge1 : (w1.setCell ⟨w.heap.size, 0, none⟩ (.map none)).cell? ⟨2, 0, none⟩ = some (.iface 233 ev) := by rw [World.cell?_setCell_far _ _ _ _ (by simp; omega)]; exact ge
      have ge2 : ((w1.setCell ⟨w.heap.size, 0, none⟩ (.map none)).setCell ⟨w.heap.size, 1, none⟩ (.map none)).cell? ⟨2, 0, none⟩ = some (.iface 233 ev) := by rw [World.cell?_setCell_far _ _ _ _ (by simp; omega)]; exact ge1
      clear lo
      go_wp2_with fail
      go_region
      all_goals go_wp2_with fail
      all_goals (
        obtain ⟨Z, hZ, q0, q1, gZ, bZ, _⟩ := HR1.out.fill HG1.out hww none none
        rw [← hZ]
        clear hZ
        refine bodyPost_ret (v := .tuple #[.agg #[.map none, .map none], .iface 233 ev]) (by simp [results, Tryz.results30, go_sem, q0, q1]) rfl ?_
        rw [← HP.out]
        exact ⟨gZ.trans (G2.below (Below.refl _ _).drew), .inr ⟨HN.out, _, _, rfl⟩⟩)
    · by_cases hE2 : V ≠ 0 ∧ dp = 8
      · obtain ⟨h0, rfl⟩ := hE2
        have HN : Hid (rdTr f n (fun r q => inB (L r) q q) (d + 1) p acc x = none) := hid (by
          unfold rdTr; rw [HRd.out]; simp only [Option.bind_some]; rw [if_neg h0, if_pos (by have := HDp.out.1; omega)])
        obtain ⟨ev, ge⟩ := HT1.out.err.x4
        have lo : 3 < w.heap.size := Nat.lt_of_lt_of_le (Nat.lt_of_lt_of_le (by decide) HT1.out.err.lG) (Nat.le_trans hbt (Nat.le_of_lt ht0))
        obtain ⟨u0, k0⟩ := HR1.out.c0
        obtain ⟨u1, k1⟩ := HR1.out.c1
        have f0 := HR1.out.f0
        have ge1 : (w1.setCell ⟨w.heap.size, 0, none⟩ (.map none)).cell? ⟨3, 0, none⟩ = some (.iface 233 ev) := by rw [World.cell?_setCell_far _ _ _ _ (by simp; omega)]; exact ge
        have ge2 : ((w1.setCell ⟨w.heap.size, 0, none⟩ (.map none)).setCell ⟨w.heap.size, 1, none⟩ (.map none)).cell? ⟨3, 0, none⟩ = some (.iface 233 ev) := by rw [World.cell?_setCell_far _ _ _ _ (by simp; omega)]; exact ge1
        have d0 : ((V : Int) == 0) = false := by simp; omega
        have d1 : decide (0 < (V : Int)) = true := by simp; omega
        clear lo hE1
        go_wp2_with fail
        go_region
        all_goals go_wp2_with fail
        all_goals (
          obtain ⟨Z, hZ, q0, q1, gZ, bZ, _⟩ := HR1.out.fill HG1.out hww none none
          rw [← hZ]
          clear hZ
          refine bodyPost_ret (v := .tuple #[.agg #[.map none, .map none], .iface 233 ev]) (by simp [results, Tryz.results30, go_sem, q0, q1]) rfl ?_
          rw [← HP.out]
          exact ⟨gZ.trans (G2.below (Below.refl _ _).drew), .inr ⟨HN.out, _, _, rfl⟩⟩)
      · have HDr : Hid (rdTr f n (fun r q => inB (L r) q q) (d + 1) p acc x = rdKs f n (fun r q => inB (L r) q q) (rdTr f n (fun r q => inB (L r) q q) d) p V (ByteArray.empty, 0) acc x1) := hid (by
          have hh := HDp.out
          unfold rdTr; rw [HRd.out]; simp only [Option.bind_some]
          by_cases h0 : V = 0
          · subst h0
            rw [if_pos rfl, if_pos (by omega)]; rfl
          · rw [if_neg h0, if_neg (by omega)])
        have hV8 : V = 0 ∨ dp < 8 := by omega
        have HV0 : Hid (V = 0 → p = []) := hid (fun h0 => List.length_eq_zero_iff.1 (by have := HDp.out.1; omega))
        clear HRd
        by_cases hVz : V = 0
        · have HVz := hid hVz
          have c1 : ((V : Int) == 0) = true := by simp [hVz]
          have c2 : ¬ (0 : Int) < dp := by omega
          have c3 : ¬ (0 : Int) < (V : Int) := by omega
          clear hVz
          go_wp2_with fail
          refine (newNode w1).mono ?_
          rintro e w2 ⟨s, s', rfl, hss, hs1, hs2, m1, m2, b2⟩
          clear c1 c2 c3 hE1 hE2
          obtain ⟨W3, hW3⟩ : ∃ W3, (w2.alloc (.cells #[.map (some s), .map (some s')] 47)).alloc (.cells #[.string ⟨#[]⟩, .int .i64 0] 110) = W3 := ⟨_, rfl⟩
          have b3 : Below w2.heap.size w2 W3 := by rw [← hW3]; exact below2 _ _ _
          have HX3 : Hid (Bx2 W3 w2.heap.size (.map (some s)) (.map (some s'))) := hid (by rw [← hW3]; exact (Bx2.made w2 _ _ _).allocs _)
          have HD3 : Hid (Bx2 W3 (w2.heap.size + 1) (.string ⟨#[]⟩) (.int .i64 0)) := hid (by rw [← hW3]; simpa using Bx2.made (w2.alloc (.cells #[.map (some s), .map (some s')] 47)) (.string ⟨#[]⟩) (.int .i64 0) 110)
          have b13 := keepS b2 b3
          have HT3 := hid (HT1.out.below b13)
          have HG3 := hid (HG1.out.trans (G2.below b13))
          have HR3 := hid (HR1.out.g2 (G2.below (tb := tb) (ub := ub) b13) hwt hwu)
          have hz1 := HG1.out.size
          have hz0 := HR1.out.lt
          have hz2 := b2.size
          have hlt1 := m1.lt
          have hlt2 := m2.lt
          have HL3 : Hid (TL W3 w.heap.size [] (wayOf p 3) (⟨#[]⟩, 0) (d + 2) 0 (s, s')) := hid (TL.new (x0 := (s, s')) _ _ _ (m1.same (b3.block s m1.lt)) (m2.same (b3.block s' m2.lt)) hss ⟨by show w.heap.size ≤ s; omega, by show w.heap.size ≤ s'; omega⟩)
          clear m1 m2 b2 b3 b13 HT1 HG1 HR1
          go_wp2_with fail
          try rw [hW3]
          clear hW3
          go_loopw [42] (fun iv wr => ∃ (k y : Nat) (l : List Lf) (ks : ByteArray) (kk : Int), k ≤ V ∧ iv = .int .i64 (k : Int) ∧ (acc ++ l).length ≤ 1000 ∧ w2.heap.size + 1 < wr.heap.size ∧ Hid (TS wr tb B kb ub bs hi a n c f aT aS aL aE L (y : Int) (acc ++ l)) ∧ Hid (G2 tb ub w wr) ∧ Hid (NB wr w.heap.size) ∧
            Hid (Bx2 wr w2.heap.size (.map (some s)) (.map (some s'))) ∧ Hid (Bx2 wr (w2.heap.size + 1) (.string ks) (.int .i64 kk)) ∧ Hid (TL wr w.heap.size l (wayOf p 3) (ks, kk) (d + 2) k (s, s')) ∧
            Hid (rdTr f n (fun r q => inB (L r) q q) (d + 1) p acc x = rdKs f n (fun r q => inB (L r) q q) (rdTr f n (fun r q => inB (L r) q q) d) p (V - k) (ks, kk) (acc ++ l) y)) (fun iv _ => V - (intOf iv).toNat)
          case atStart => exact ⟨0, x1, [], ⟨#[]⟩, 0, Nat.zero_le _, rfl, by simpa using hl, HD3.out.lt, by simpa using HT3, HG3, HR3, HX3, HD3, HL3, hid (by rw [HDr.out]; simp; rfl)⟩
          case round =>
            obtain ⟨k, y, l, ks, kk, hkV, rfl, hal, hz3, hT, hG, hR, hX, hD, hM, hrd⟩ := hrel
            by_cases hlt : k < V
            · exact absurd hlt (by have := HVz.out; omega)
            · obtain rfl : k = V := by omega
              have HY : Hid (rdTr f n (fun r q => inB (L r) q q) (d + 1) p acc x = some (acc ++ l, y)) := hid (by
                rw [hrd.out, Nat.sub_self]
                rfl)
              have x0 := hX.out.c0
              have x1' := hX.out.c1
              obtain ⟨u0, k0⟩ := hR.out.c0
              obtain ⟨u1, k1⟩ := hR.out.c1
              have f0 := hR.out.f0
              have HC0 := hid k0
              clear hrd
              go_wp2_with fail
              obtain ⟨Z, hZ, q0, q1, gZ, bZ, gg⟩ := hR.out.fill hG.out hww (some s) (some s')
              rw [← hZ]
              clear hZ
              refine bodyPost_ret (v := .tuple #[.agg #[.map (some s), .map (some s')], .nilIface]) (by simp [results, Tryz.results30, go_sem, q0, q1]) rfl ?_
              rw [← HP.out]
              obtain ⟨N, cnt, j1, j2, j3⟩ := hM.out.full
              have j4 := hM.out.some'
              refine ⟨gZ, .inl ⟨l, y, cnt, N, (s, s'), HY.out, rfl, hT.out.gr gg hhi, j3, ?_, j2, hal, j1.box HC0.out gg⟩⟩
              by_cases h0 : k = 0
              · exact .inr (by rw [HV0.out h0]; rfl)
              · exact .inl (fun e => by rw [e] at j4; simp at j4; omega)
        · have c1 : ((V : Int) == 0) = false := by simp [hVz]
          have c2 : (0 : Int) < (V : Int) := by omega
          have c3 : (dp == 8) = false := by simp; omega
          clear hVz
          go_wp2_with fail
          refine (newNode w1).mono ?_
          rintro e w2 ⟨s, s', rfl, hss, hs1, hs2, m1, m2, b2⟩
          clear c1 c2 c3 hE1 hE2
          obtain ⟨W3, hW3⟩ : ∃ W3, (w2.alloc (.cells #[.map (some s), .map (some s')] 47)).alloc (.cells #[.string ⟨#[]⟩, .int .i64 0] 110) = W3 := ⟨_, rfl⟩
          have b3 : Below w2.heap.size w2 W3 := by rw [← hW3]; exact below2 _ _ _
          have HX3 : Hid (Bx2 W3 w2.heap.size (.map (some s)) (.map (some s'))) := hid (by rw [← hW3]; exact (Bx2.made w2 _ _ _).allocs _)
          have HD3 : Hid (Bx2 W3 (w2.heap.size + 1) (.string ⟨#[]⟩) (.int .i64 0)) := hid (by rw [← hW3]; simpa using Bx2.made (w2.alloc (.cells #[.map (some s), .map (some s')] 47)) (.string ⟨#[]⟩) (.int .i64 0) 110)
          have b13 := keepS b2 b3
          have HT3 := hid (HT1.out.below b13)
          have HG3 := hid (HG1.out.trans (G2.below b13))
          have HR3 := hid (HR1.out.g2 (G2.below (tb := tb) (ub := ub) b13) hwt hwu)
          have hz1 := HG1.out.size
          have hz0 := HR1.out.lt
          have hz2 := b2.size
          have hlt1 := m1.lt
          have hlt2 := m2.lt
          have HL3 : Hid (TL W3 w.heap.size [] (wayOf p 3) (⟨#[]⟩, 0) (d + 2) 0 (s, s')) := hid (TL.new (x0 := (s, s')) _ _ _ (m1.same (b3.block s m1.lt)) (m2.same (b3.block s' m2.lt)) hss ⟨by show w.heap.size ≤ s; omega, by show w.heap.size ≤ s'; omega⟩)
          clear m1 m2 b2 b3 b13 HT1 HG1 HR1
          go_wp2_with fail
          try rw [hW3]
          clear hW3
          go_loopw [42] (fun iv wr => ∃ (k y : Nat) (l : List Lf) (ks : ByteArray) (kk : Int), k ≤ V ∧ iv = .int .i64 (k : Int) ∧ (acc ++ l).length ≤ 1000 ∧ w2.heap.size + 1 < wr.heap.size ∧ Hid (TS wr tb B kb ub bs hi a n c f aT aS aL aE L (y : Int) (acc ++ l)) ∧ Hid (G2 tb ub w wr) ∧ Hid (NB wr w.heap.size) ∧
            Hid (Bx2 wr w2.heap.size (.map (some s)) (.map (some s'))) ∧ Hid (Bx2 wr (w2.heap.size + 1) (.string ks) (.int .i64 kk)) ∧ Hid (TL wr w.heap.size l (wayOf p 3) (ks, kk) (d + 2) k (s, s')) ∧
            Hid (rdTr f n (fun r q => inB (L r) q q) (d + 1) p acc x = rdKs f n (fun r q => inB (L r) q q) (rdTr f n (fun r q => inB (L r) q q) d) p (V - k) (ks, kk) (acc ++ l) y)) (fun iv _ => V - (intOf iv).toNat)
          case atStart => exact ⟨0, x1, [], ⟨#[]⟩, 0, Nat.zero_le _, rfl, by simpa using hl, HD3.out.lt, by simpa using HT3, HG3, HR3, HX3, HD3, HL3, hid (by rw [HDr.out]; simp; rfl)⟩
          case round =>
            obtain ⟨k, y, l, ks, kk, hkV, rfl, hal, hz3, hT, hG, hR, hX, hD, hM, hrd⟩ := hrel
            by_cases hlt : k < V
            · obtain ⟨m, hm⟩ : ∃ m, V - k = m + 1 := ⟨V - k - 1, by omega⟩
              have hd8 : dp < 8 := by omega
              have HKy := hid (keyC (EX := exT kb ub) tb B a n c f aT aS aL aE y ks kk wr hn hnc hcc HF.out hT.out.seg hT.out.cur hT.out.err hbt (fun z hz => (hT.out.ab z hz).1))
              have d0 := hD.out.c0
              have d1 := hD.out.c1
              go_wp2_with fail
              clear d0 d1
              refine HKy.out.mono ?_
              clear HKy
              rintro e w4 ⟨g4, ⟨yk, x2, hz, rfl, cu4⟩ | ⟨hz, t, v, rfl⟩⟩
              · obtain ⟨ys, yn⟩ := yk
                obtain ⟨hcmp, hsz, hn0, hn1⟩ := rdKy_some HF.out hz
                obtain ⟨kl, hkl⟩ := keyKey (s := ys) (k := yn) (by simp only at hsz; unfold maxLen; omega) (wfI (by omega) (by omega))
                have HKL := hid hkl
                have HCmp := hid hcmp
                simp only at hn0 hn1
                obtain ⟨W5, hW5⟩ : ∃ W5, w4.alloc (.cells #[.string ys, .int .i64 yn] 110) = W5 := ⟨_, rfl⟩
                have b5 : Below w4.heap.size w4 W5 := by rw [← hW5]; exact (Below.refl _ _).alloc (Nat.le_refl _) _
                have z5 : W5.heap.size = w4.heap.size + 1 := by rw [← hW5]; simp
                have g5 : G2 tb ub wr W5 := (G2.t g4).trans (G2.below b5)
                have Y5 : Bx2 W5 w4.heap.size (.string ys) (.int .i64 yn) := by rw [← hW5]; exact Bx2.made w4 _ _ _
                have hw4 := g4.size
                have hww3 := hG.out.size
                have HT5 := hid ((hT.out.t g4 cu4).below b5)
                have HKd := hid (kidC tb B kb ub bs hi a n c f aT aS aL aE L x2 (acc ++ l) ys yn (dp + 1) p (rdTr f n (fun r q => inB (L r) q q) d) (d + 1) W5 hn hnc hcc HF.out (by omega) HT5.out (by omega) HS.out hal (fun e3 W' hW' hs' => by
                  subst e3
                  have := HRec.out (by have := HDp.out.1; omega) ys x2 (acc ++ l) W' hW' hs' hal
                  rw [wayOf_snoc] at this
                  exact this))
                have y0 := Y5.c0
                have y1 := Y5.c1
                have HY5 := hid Y5
                have HZ5 := hid z5
                have HG5 := hid g5
                clear Y5 g5 b5 z5 cu4 hkl hcmp
                go_wp2_with fail
                try rw [hW5]
                clear hW5 y0 y1
                refine HKd.out.mono ?_
                clear HKd
                rintro e w6 ⟨g6, ⟨J, x3, cnt, N1, x1n, r1, rfl, t6, hJ1, hJ2, hJ3, hJ4, hJ5⟩ | ⟨r1, t, v, rfl⟩⟩
                · obtain ⟨s1, s2⟩ := x1n
                  have hne : J ≠ [] := hJ2.resolve_right (by simp)
                  have HRd6 : Hid (rdTr f n (fun r q => inB (L r) q q) (d + 1) p acc x = rdKs f n (fun r q => inB (L r) q q) (rdTr f n (fun r q => inB (L r) q q) d) p (V - (k + 1)) (ys, yn) (acc ++ (l ++ J)) x3) := hid (by
                    rw [hrd.out, hm, show V - (k + 1) = m by omega]
                    show (rdKy f n (ks, kk) y).bind _ = _
                    rw [hz]
                    simp only [Option.bind_some]
                    rw [r1]
                    simp only [Option.bind_some, List.append_assoc])
                  obtain ⟨W7, hW7⟩ : ∃ W7, w6.alloc (.cells #[.map (some s1), .map (some s2)] 47) = W7 := ⟨_, rfl⟩
                  have b7 : Below w6.heap.size w6 W7 := by rw [← hW7]; exact (Below.refl _ _).alloc (Nat.le_refl _) _
                  have V7 : Bx2 W7 w6.heap.size (.map (some s1)) (.map (some s2)) := by rw [← hW7]; exact Bx2.made w6 _ _ _
                  have g57 : G2 tb ub W5 W7 := g6.trans (G2.below b7)
                  have g7 : G2 tb ub wr W7 := HG5.out.trans g57
                  have hz5 := HZ5.out
                  have hw6 := g6.size
                  have X7 : Bx2 W7 w2.heap.size (.map (some s)) (.map (some s')) := ⟨(g7.cell (by omega) (by omega) (by omega)).trans hX.out.c0, (g7.cell (by omega) (by omega) (by omega)).trans hX.out.c1, fun i => (g7.frozen (by omega) (by omega) (by omega)).trans (hX.out.f i), Nat.lt_of_lt_of_le hX.out.lt g7.size⟩
                  have D7 : Bx2 W7 (w2.heap.size + 1) (.string ks) (.int .i64 kk) := ⟨(g7.cell (by omega) (by omega) (by omega)).trans hD.out.c0, (g7.cell (by omega) (by omega) (by omega)).trans hD.out.c1, fun i => (g7.frozen (by omega) (by omega) (by omega)).trans (hD.out.f i), Nat.lt_of_lt_of_le hD.out.lt g7.size⟩
                  have Y7 : Bx2 W7 w4.heap.size (.string ys) (.int .i64 yn) := ⟨(g57.cell (by omega) (by omega) (by omega)).trans HY5.out.c0, (g57.cell (by omega) (by omega) (by omega)).trans HY5.out.c1, fun i => (g57.frozen (by omega) (by omega) (by omega)).trans (HY5.out.f i), Nat.lt_of_lt_of_le HY5.out.lt g57.size⟩
                  have HT7 := hid (t6.below b7)
                  have HG7 := hid (hG.out.trans g7)
                  have HR7 := hid (hR.out.g2 g7 hwt hwu)
                  obtain ⟨cc, F, hcc9, hmF, hstep⟩ := hM.out.hang g7 ht0 hu0 (hJ5.below b7) (by omega) hww3 HCmp.out hJ1 hne hJ3
                  have hcm : cc < maxLen := by
                    have h1 : (acc ++ l ++ J).length = acc.length + (l ++ J).length := by simp [Nat.add_assoc]
                    have h2 : (l ++ J).length ≤ 1000 := by omega
                    have h3 : d + 1 + 1 ≤ 10 := by have := HDp.out.2; omega
                    have h4 := Nat.mul_le_mul h3 h2
                    unfold maxLen; omega
                  have HStep := hid hstep
                  obtain ⟨w9, r9, m9, g9⟩ := hmF.store keyKeyed (fun _ _ => keyV_inj) Tryz.underlying44 hcm (x := (ys, yn)) (y := (s1, s2)) HKL.out
                  have hslt : s < w2.heap.size := hlt1
                  have cg : ∀ b i, b ≠ s → b < W7.heap.size → w9.cell? ⟨b, i, none⟩ = W7.cell? ⟨b, i, none⟩ := fun b i h1 h2 => World.cell?_of_block (a := ⟨b, i, none⟩) (g9.block b h2 (fun e => h1 (by injection e)))
                  have fg : ∀ b i, b ≠ s → b < W7.heap.size → w9.frozen? ⟨b, i, none⟩ = W7.frozen? ⟨b, i, none⟩ := fun b i h1 h2 => World.frozen?_of_block (a := ⟨b, i, none⟩) (g9.block b h2 (fun e => h1 (by injection e)))
                  have v0 := (cg w4.heap.size 0 (by omega) Y7.lt).trans Y7.c0
                  have v1 := (cg w4.heap.size 1 (by omega) Y7.lt).trans Y7.c1
                  have D9 : Bx2 w9 (w2.heap.size + 1) (.string ks) (.int .i64 kk) := ⟨(cg _ 0 (by omega) D7.lt).trans D7.c0, (cg _ 1 (by omega) D7.lt).trans D7.c1, fun i => (fg _ i (by omega) D7.lt).trans (D7.f i), Nat.lt_of_lt_of_le D7.lt g9.size⟩
                  have X9 : Bx2 w9 w2.heap.size (.map (some s)) (.map (some s')) := ⟨(cg _ 0 (by omega) X7.lt).trans X7.c0, (cg _ 1 (by omega) X7.lt).trans X7.c1, fun i => (fg _ i (by omega) X7.lt).trans (X7.f i), Nat.lt_of_lt_of_le X7.lt g9.size⟩
                  have HT9 := hid (HT7.out.gr g9 (by omega))
                  have HG9 := hid (HG7.out.gr g9 (by omega))
                  have HR9 := hid (HR7.out.same (g9.block w.heap.size HR7.out.lt (fun e => by injection e with e; omega)) g9.size)
                  have HL9 := hid (HStep.out w9 g9 m9)
                  obtain ⟨Zw, hZw⟩ : ∃ Zw, (w9.setCell ⟨w2.heap.size + 1, 0, none⟩ (.string ys)).setCell ⟨w2.heap.size + 1, 1, none⟩ (.int .i64 yn) = Zw := ⟨_, rfl⟩
                  have gz : w9.grownBy Zw (some (w2.heap.size + 1)) := by
                    rw [← hZw]
                    exact ⟨rfl, rfl, rfl, by simp [World.setCell], fun j hj hne => (Below.heap_setCell _ _ _ _ (fun e => hne (by rw [e]))).trans (Below.heap_setCell _ _ _ _ (fun e => hne (by rw [e])))⟩
                  have DZ : Bx2 Zw (w2.heap.size + 1) (.string ys) (.int .i64 yn) := by
                    rw [← hZw]
                    refine ⟨?_, ?_, fun i => ?_, by simpa [World.setCell] using D9.lt⟩
                    · rw [World.cell?_setCell_other _ _ _ _ (by simp)]
                      exact World.cell?_setCell_same _ _ _ D9.c0
                    · exact World.cell?_setCell_same _ _ _ (by rw [World.cell?_setCell_other _ _ _ _ (by simp)]; exact D9.c1)
                    · simpa using D9.f i
                  have HDZ := hid DZ
                  have HXZ : Hid (Bx2 Zw w2.heap.size (.map (some s)) (.map (some s'))) := hid (by
                    have e := gz.block w2.heap.size X9.lt (fun e => by injection e with e; omega)
                    exact ⟨(World.cell?_of_block (a := ⟨w2.heap.size, 0, none⟩) e).trans X9.c0, (World.cell?_of_block (a := ⟨w2.heap.size, 1, none⟩) e).trans X9.c1, fun i => (World.frozen?_of_block (a := ⟨w2.heap.size, i, none⟩) e).trans (X9.f i), Nat.lt_of_lt_of_le X9.lt gz.size⟩)
                  have HTZ := hid (HT9.out.gr gz (by omega))
                  have HGZ := hid (HG9.out.gr gz (by omega))
                  have HRZ := hid (HR9.out.same (gz.block w.heap.size HR9.out.lt (fun e => by injection e with e; omega)) gz.size)
                  have HLZ := hid (HL9.out.box D9.c0 gz)
                  have x0 := X7.c0
                  have x1' := X7.c1
                  have y0 := Y7.c0
                  have y1 := Y7.c1
                  have n0 := V7.c0
                  have n1 := V7.c1
                  have e0 := D9.c0
                  have e1 := D9.c1
                  have ef := D9.f
                  have hal2 : (acc ++ (l ++ J)).length ≤ 1000 := by rw [← List.append_assoc]; exact hJ4
                  unfold keyV nodV at r9
                  dsimp only at r9
                  clear m9 g9 cg fg D9 X9 gz DZ HT9 HG9 HR9 HL9 HStep hstep hmF X7 D7 Y7 V7 g57 g7 b7 HY5 HT5 HG5 HT7 HG7 HR7 HKL hJ1 hJ2 hJ3 hJ4 hJ5 t6 g6 r1 hz hT hG hR hX hD hM hrd hm hcm hcc9
                  go_wp2_with fail
                  try rw [hZw]
                  go_roundw
                  case rel => exact ⟨k + 1, x3, l ++ J, ys, yn, hlt, by go_num, hal2, HDZ.out.lt, by rw [← List.append_assoc]; exact HTZ, HGZ, HRZ, HXZ, HDZ, HLZ, HRd6⟩
                  case measure => simp [intOf]; omega
                · have HN : Hid (rdTr f n (fun r q => inB (L r) q q) (d + 1) p acc x = none) := hid (by
                    rw [hrd.out, hm]
                    show (rdKy f n (ks, kk) y).bind _ = _
                    rw [hz]
                    simp only [Option.bind_some]
                    rw [r1]
                    rfl)
                  have b7 : Below w6.heap.size w6 (w6.alloc (.cells #[.map none, .map none] 47)) := (Below.refl _ _).alloc (Nat.le_refl _) _
                  have g57 : G2 tb ub W5 (w6.alloc (.cells #[.map none, .map none] 47)) := g6.trans (G2.below b7)
                  have HG7 := hid (hG.out.trans (HG5.out.trans g57))
                  have HR7 := hid (hR.out.g2 (HG5.out.trans g57) hwt hwu)
                  have hz5 := HZ5.out
                  have hz6 := g6.size
                  have hwr := hG.out.size
                  have hw4 := HG5.out.size
                  have y0 : (w6.alloc (.cells #[.map none, .map none] 47)).cell? ⟨w4.heap.size, 0, none⟩ = some (.string ys) := (g57.cell HY5.out.lt (by omega) (by omega)).trans HY5.out.c0
                  have y1 : (w6.alloc (.cells #[.map none, .map none] 47)).cell? ⟨w4.heap.size, 1, none⟩ = some (.int .i64 yn) := (g57.cell HY5.out.lt (by omega) (by omega)).trans HY5.out.c1
                  have hne4 : w4.heap.size ≠ w.heap.size := by have := g4.size; omega
                  have HNe := hid hne4
                  clear hz5 hz6 hwr hw4 hne4 g6 g57 b7 r1 hz hX hD hM hT hG hR hrd hm HG5 HY5 HT5 HKL
                  go_wp2_with fail
                  obtain ⟨W7, hW7⟩ : ∃ W7, w6.alloc (.cells #[.map none, .map none] 47) = W7 := ⟨_, rfl⟩
                  have z7 : w6.heap.size + 1 = W7.heap.size := by rw [← hW7]; simp
                  rw [hW7] at HG7 HR7 y0 y1 ⊢
                  clear hW7
                  have far : ∀ (v : World) (i : Nat) (u : Value) (j : Nat), (v.setCell ⟨w.heap.size, i, none⟩ u).cell? ⟨w4.heap.size, j, none⟩ = v.cell? ⟨w4.heap.size, j, none⟩ := fun v i u j => World.cell?_setCell_far _ _ _ _ (by have := HNe.out; simpa using this.symm)
                  have y01 := (far W7 0 (.map none) 0).trans y0
                  have y02 := (far _ 1 (.map none) 0).trans y01
                  have y11 := (far W7 0 (.map none) 1).trans y1
                  have y12 := (far _ 1 (.map none) 1).trans y11
                  have bP : Below W7.heap.size W7 (W7.alloc (.cells #[.string ys, .int .i64 yn, .iface t v] 116)) := (Below.refl _ _).alloc (Nat.le_refl _) _
                  have HGP := hid (HG7.out.trans (G2.below bP))
                  have HRP := hid (HR7.out.g2 (G2.below (tb := tb) (ub := ub) bP) hwt hwu)
                  obtain ⟨u0, k0⟩ := HR7.out.c0
                  obtain ⟨u1, k1⟩ := HR7.out.c1
                  have f0 := HR7.out.f0
                  obtain ⟨v0, l0⟩ := HRP.out.c0
                  obtain ⟨v1, l1⟩ := HRP.out.c1
                  have fP := HRP.out.f0
                  clear far bP
                  go_region
                  all_goals go_wp2_with fail
                  · obtain ⟨Z, hZ, q0, q1, gZ, bZ, _⟩ := HRP.out.fill HGP.out hww none none
                    rw [← hZ]
                    clear hZ
                    refine bodyPost_ret (v := .tuple #[.agg #[.map none, .map none], .iface 114 (.pointer (some ⟨W7.heap.size, 0, none⟩))]) (by simp [results, Tryz.results30, go_sem, q0, q1]) rfl ?_
                    rw [← HP.out]
                    exact ⟨gZ.trans (G2.below (Below.refl _ _).drew), .inr ⟨HN.out, _, _, rfl⟩⟩
                  · obtain ⟨Z, hZ, q0, q1, gZ, bZ, gg⟩ := HR7.out.fill HG7.out hww none none
                    rw [← hZ]
                    clear hZ
                    have hlZ : w.heap.size < Z.heap.size := Nat.lt_of_lt_of_le HR7.out.lt gg.size
                    have bQ : Below Z.heap.size Z (Z.alloc (.cells #[.string ys, .int .i64 yn, .iface t v] 116)) := (Below.refl _ _).alloc (Nat.le_refl _) _
                    have q0' := (bQ.cell (p := ⟨w.heap.size, 0, none⟩) hlZ).trans q0
                    have q1' := (bQ.cell (p := ⟨w.heap.size, 1, none⟩) hlZ).trans q1
                    have gQ := gZ.trans (G2.below bQ)
                    refine bodyPost_ret (v := .tuple #[.agg #[.map none, .map none], .iface 114 (.pointer (some ⟨W7.heap.size, 0, none⟩))]) (by simp [results, Tryz.results30, go_sem, q0', q1']) rfl ?_
                    rw [← HP.out]
                    exact ⟨gQ.trans (G2.below (Below.refl _ _).drew), .inr ⟨HN.out, _, _, rfl⟩⟩
              · have HN : Hid (rdTr f n (fun r q => inB (L r) q q) (d + 1) p acc x = none) := hid (by
                  rw [hrd.out, hm]
                  show (rdKy f n (ks, kk) y).bind _ = _
                  rw [hz]
                  rfl)
                have bA : Below w4.heap.size w4 (w4.alloc (.cells #[.string ⟨#[]⟩, .int .i64 0] 110)) := (Below.refl _ _).alloc (Nat.le_refl _) _
                have gA := (G2.t (ub := ub) g4).trans (G2.below bA)
                have HG8 := hid (hG.out.trans gA)
                have HR8 := hid (hR.out.g2 gA hwt hwu)
                obtain ⟨u0, k0⟩ := HR8.out.c0
                obtain ⟨u1, k1⟩ := HR8.out.c1
                have f0 := HR8.out.f0
                clear g4 gA bA hz hX hD hM hT hG hR hrd hm
                go_wp2_with fail
                obtain ⟨Z, hZ, q0, q1, gZ, bZ, _⟩ := HR8.out.fill HG8.out hww none none
                rw [← hZ]
                clear hZ
                refine bodyPost_ret (v := .tuple #[.agg #[.map none, .map none], .iface t v]) (by simp [results, Tryz.results30, go_sem, q0, q1]) rfl ?_
                rw [← HP.out]
                exact ⟨gZ, .inr ⟨HN.out, _, _, rfl⟩⟩
            · obtain rfl : k = V := by omega
              have HY : Hid (rdTr f n (fun r q => inB (L r) q q) (d + 1) p acc x = some (acc ++ l, y)) := hid (by
                rw [hrd.out, Nat.sub_self]
                rfl)
              have x0 := hX.out.c0
              have x1' := hX.out.c1
              obtain ⟨u0, k0⟩ := hR.out.c0
              obtain ⟨u1, k1⟩ := hR.out.c1
              have f0 := hR.out.f0
              have HC0 := hid k0
              clear hrd
              go_wp2_with fail
              obtain ⟨Z, hZ, q0, q1, gZ, bZ, gg⟩ := hR.out.fill hG.out hww (some s) (some s')
              rw [← hZ]
              clear hZ
              refine bodyPost_ret (v := .tuple #[.agg #[.map (some s), .map (some s')], .nilIface]) (by simp [results, Tryz.results30, go_sem, q0, q1]) rfl ?_
              rw [← HP.out]
              obtain ⟨N, cnt, j1, j2, j3⟩ := hM.out.full
              have j4 := hM.out.some'
              refine ⟨gZ, .inl ⟨l, y, cnt, N, (s, s'), HY.out, rfl, hT.out.gr gg hhi, j3, ?_, j2, hal, j1.box HC0.out gg⟩⟩
              by_cases h0 : k = 0
              · exact .inr (by rw [HV0.out h0]; rfl)
              · exact .inl (fun e => by rw [e] at j4; simp at j4; omega)
  · rw [rdI_nat] at hr
    have HN : Hid (rdTr f n (fun r q => inB (L r) q q) (d + 1) p acc x = none) := hid (by unfold rdTr; rw [hr]; rfl)
    have HG1 := hid (HG0.out.trans (G2.t g1))
    have HR1 := hid (HR0.out.g2 (G2.t (ub := ub) g1) hwt hwu)
    obtain ⟨u0, k0⟩ := HR1.out.c0
    obtain ⟨u1, k1⟩ := HR1.out.c1
    have f0 := HR1.out.f0
    clear g1 hr cu HG0 HR0 HT0
    go_wp2_with fail
    obtain ⟨Z, hZ, q0, q1, gZ, bZ, _⟩ := HR1.out.fill HG1.out hww none none
    rw [← hZ]
    clear hZ
    refine bodyPost_ret (v := .tuple #[.agg #[.map none, .map none], .iface t v]) (by simp [results, Tryz.results30, go_sem, q0, q1]) rfl ?_
    rw [← HP.out]
    exact ⟨gZ, .inr ⟨HN.out, _, _, rfl⟩⟩
theorem treeC (tb B kb ub bs hi : Nat) (a : Option Addr) (n c : Nat) (f : Nat → Int) (aT aS aL aE : Addr) (L : Int → List (Int × Int)) (hn : n ≤ 1048576) (hnc : n ≤ c) (hcc : c ≤ 4611686018427387904) (hf : Byt f) (hS : ∀ r, Srt (L r) ∧ (L r).length ≤ 1000000) :
    ∀ (d : Nat) (p : List ByteArray), p.length + d = 8 → ∀ (x : Nat) (acc : List Lf) (w : World), TS w tb B kb ub bs hi a n c f aT aS aL aE L (x : Int) acc → hi ≤ w.heap.size → acc.length ≤ 1000 →
    Calls Tryz.prog 30 #[.pointer (some ⟨tb, 0, none⟩), .int .i64 (p.length : Int)] w fun e w' => NdP w tb B kb ub bs hi a n c f aT aS aL aE L acc (rdTr f n (fun r q => inB (L r) q q) (d + 1) p acc x) (wayOf p 3) (d + 2) e w'
  | 0, p, hp, x, acc, w, hT, hh, hl => treeStep tb B kb ub bs hi a n c f aT aS aL aE L 0 p hp hn hnc hcc hf hS (fun h => absurd h (by omega)) x acc w hT hh hl
  | d + 1, p, hp, x, acc, w, hT, hh, hl => treeStep tb B kb ub bs hi a n c f aT aS aL aE L (d + 1) p hp hn hnc hcc hf hS (fun h s x' acc' W hT' hh' hl' => by
      have := treeC tb B kb ub bs hi a n c f aT aS aL aE L hn hnc hcc hf hS d (p ++ [s]) (by simp; omega) x' acc' W hT' hh' hl'
      rw [show ((p ++ [s]).length : Int) = (p.length : Int) + 1 by simp] at this
      exact this) x acc w hT hh hl
end Go.Proofs.YtakmpmhjcngbbaaGreatDoor
namespace Go.Proofs.YtakmpmhjcngbbaaGreatDoor
open Go.ChangeShapes Go.WideShapes Go.ChangeAt Go.RowKit
def mk3 (k0 c : Nat) (i : Nat) : Int := ((k0 + 3 * i + c : Nat) : Int)
theorem markRunS (B g n cap : Nat) (k0 : Nat) (ys : List Value) (w : World) (hk0 : k0 ≤ 9000000000000) (hn1 : n ≤ 1000000000) (ho : w.ownsRow B 64 3 (.slice (some ⟨g, 0, none⟩) n cap) n ys) :
    Calls Tryz.prog 37 #[.slice (some ⟨g, 0, none⟩) n cap, .int .i64 (k0 : Int)] w fun e w' => e = .returned (.int .i64 ((k0 + 3 * n : Nat) : Int)) ∧ Below B w w' ∧ w'.heap.size = w.heap.size ∧ RSeg w' (some ⟨g, 0, none⟩) n (mk3 k0 0) (mk3 k0 1) (mk3 k0 2) ∧ (∀ b, b ≠ g → w'.heap[b]? = w.heap[b]?) := by
  go_enter Tryz.func37, Tryz.ntmps37
  go_wp2_with fail
  go_loopw [1, 5] (fun k i wr => ∃ (j m : Nat), j ≤ n ∧ m = k0 + 3 * j ∧ i = .int .i64 (j : Int) ∧ k = .int .i64 (m : Int) ∧ Hid (Below B w wr) ∧ Hid (wr.heap.size = w.heap.size) ∧ Hid (∀ b, b ≠ g → wr.heap[b]? = w.heap[b]?) ∧ ∃ xs : List Value, Hid (wr.ownsRow B 64 3 (.slice (some ⟨g, 0, none⟩) n cap) n xs) ∧ Hid (∀ t, t < j → xs[t * 3]? = some (.int .i64 (mk3 k0 0 t)) ∧ xs[t * 3 + 1]? = some (.int .i64 (mk3 k0 1 t)) ∧ xs[t * 3 + 2]? = some (.int .i64 (mk3 k0 2 t)))) (fun _ i _ => n - (intOf i).toNat)
  case atStart => exact ⟨0, k0, Nat.zero_le _, rfl, rfl, rfl, hid (Below.refl _ _), hid rfl, hid (fun _ _ => rfl), _, hid ho, hid (fun t ht => by omega)⟩
  case round =>
    clear ho
    obtain ⟨j, m, hj, hm, rfl, rfl, hbel, hsz, hoth, xs, hown, hxs⟩ := hrel
    by_cases hlt : j < n
    · have f0 := hown.out.frozenAt (j * 3)
      have f1 := hown.out.frozenAt (j * 3 + 1)
      have f2 := hown.out.frozenAt (j * 3 + 2)
      obtain ⟨u0, hu0⟩ := owns_cell hown.out (j * 3) (by omega)
      obtain ⟨u1, hu1⟩ := owns_cell hown.out (j * 3 + 1) (by omega)
      obtain ⟨u2, hu2⟩ := owns_cell hown.out (j * 3 + 2) (by omega)
      have hlen := hown.out.1
      have HR := hid (((hown.out.stored (j * 3) (.int .i64 (m : Int))).1.stored (j * 3 + 1) (.int .i64 ((m : Int) + 1))).1.stored (j * 3 + 2) (.int .i64 ((m : Int) + 1 + 1))).1
      have HX : Hid (∀ t, t < j + 1 → (((xs.set (j * 3) (.int .i64 (m : Int))).set (j * 3 + 1) (.int .i64 ((m : Int) + 1))).set (j * 3 + 2) (.int .i64 ((m : Int) + 1 + 1)))[t * 3]? = some (.int .i64 (mk3 k0 0 t)) ∧ (((xs.set (j * 3) (.int .i64 (m : Int))).set (j * 3 + 1) (.int .i64 ((m : Int) + 1))).set (j * 3 + 2) (.int .i64 ((m : Int) + 1 + 1)))[t * 3 + 1]? = some (.int .i64 (mk3 k0 1 t)) ∧ (((xs.set (j * 3) (.int .i64 (m : Int))).set (j * 3 + 1) (.int .i64 ((m : Int) + 1))).set (j * 3 + 2) (.int .i64 ((m : Int) + 1 + 1)))[t * 3 + 2]? = some (.int .i64 (mk3 k0 2 t))) := by
        intro t ht
        by_cases htj : t = j
        · subst htj
          refine ⟨?_, ?_, ?_⟩
          · rw [List.getElem?_set_ne (by omega), List.getElem?_set_ne (by omega), List.getElem?_set_self (by omega)]; unfold mk3; congr 2; omega
          · rw [List.getElem?_set_ne (by omega), List.getElem?_set_self (by simp; omega)]; unfold mk3; congr 2; omega
          · rw [List.getElem?_set_self (by simp; omega)]; unfold mk3; congr 2; omega
        · obtain ⟨x0, x1, x2⟩ := hxs.out t (by omega)
          refine ⟨?_, ?_, ?_⟩
          · rw [List.getElem?_set_ne (by omega), List.getElem?_set_ne (by omega), List.getElem?_set_ne (by omega)]; exact x0
          · rw [List.getElem?_set_ne (by omega), List.getElem?_set_ne (by omega), List.getElem?_set_ne (by omega)]; exact x1
          · rw [List.getElem?_set_ne (by omega), List.getElem?_set_ne (by omega), List.getElem?_set_ne (by omega)]; exact x2
      have hg0 := (hown.out.lt g rfl).1
      have HB := hid (((hbel.out.setCell (p := ⟨g, j * 3, none⟩) hg0 (.int .i64 (m : Int))).setCell (p := ⟨g, j * 3 + 1, none⟩) hg0 (.int .i64 ((m : Int) + 1))).setCell (p := ⟨g, j * 3 + 2, none⟩) hg0 (.int .i64 ((m : Int) + 1 + 1)))
      have HZ : Hid ((((wr.setCell ⟨g, j * 3, none⟩ (.int .i64 (m : Int))).setCell ⟨g, j * 3 + 1, none⟩ (.int .i64 ((m : Int) + 1))).setCell ⟨g, j * 3 + 2, none⟩ (.int .i64 ((m : Int) + 1 + 1))).heap.size = w.heap.size) := by show _ = _; rw [← hsz.out]; simp [World.setCell]
      have HO : Hid (∀ b, b ≠ g → (((wr.setCell ⟨g, j * 3, none⟩ (.int .i64 (m : Int))).setCell ⟨g, j * 3 + 1, none⟩ (.int .i64 ((m : Int) + 1))).setCell ⟨g, j * 3 + 2, none⟩ (.int .i64 ((m : Int) + 1 + 1))).heap[b]? = w.heap[b]?) := fun b hb => (Below.heap_setCell _ _ _ _ hb).trans ((Below.heap_setCell _ _ _ _ hb).trans ((Below.heap_setCell _ _ _ _ hb).trans (hoth.out b hb)))
      clear hlen hg0
      have hmb : m ≤ 9000000000000 + 3000000000 := by omega
      have HM := hid hm
      clear hm
      go_wp2_with fail
      go_roundw
      case rel => exact ⟨j + 1, m + 3, hlt, by have := HM.out; omega, by go_num, by go_num, HB, HZ, HO, _, HR, HX⟩
      case measure => simp [intOf]; omega
    · obtain rfl : j = n := by omega
      have hsg : RSeg wr (some ⟨g, 0, none⟩) j (mk3 k0 0) (mk3 k0 1) (mk3 k0 2) := .inr ⟨g, 0, rfl, (hown.out.lt g rfl).2, fun i hi => by
        obtain ⟨x0, x1, x2⟩ := hxs.out i hi
        rw [Nat.zero_add, hown.out.cellAt _ (by omega), hown.out.cellAt _ (by omega), hown.out.cellAt _ (by omega)]
        exact ⟨x0, x1, x2⟩⟩
      have HR := hid hsg
      clear hsg
      subst hm
      go_wp2_with fail
      go_ret
      exact ⟨by simp, hbel.out, hsz.out, HR.out, hoth.out⟩
theorem markContext (B g n cap : Nat) (k0 : Nat) (ys : List Value) (w : World) (hB : B ≤ w.heap.size) (hk0 : k0 ≤ 9000000000000) (hn1 : n ≤ 1000000000) (ho : w.ownsRow B 64 3 (.slice (some ⟨g, 0, none⟩) n cap) n ys) :
    Calls Tryz.prog 20 #[.agg #[.slice (some ⟨g, 0, none⟩) n cap], .int .i64 (k0 : Int)] w fun e w' => e = .returned (.int .i64 ((k0 + 3 * n : Nat) : Int)) ∧ Below B w w' ∧ RSeg w' (some ⟨g, 0, none⟩) n (mk3 k0 0) (mk3 k0 1) (mk3 k0 2) ∧ w.heap.size ≤ w'.heap.size ∧ (∀ b, b < w.heap.size → b ≠ g → w'.heap[b]? = w.heap[b]?) := by
  have HB0 : Hid (Below w.heap.size w (w.alloc (.cells #[.slice (some ⟨g, 0, none⟩) n cap] 26))) := (Below.refl _ _).alloc (Nat.le_refl _) _
  go_enter Tryz.func20, Tryz.ntmps20
  go_wp2_with fail
  refine (markRunS B g n cap k0 ys _ hk0 hn1 (ho.alloc _)).mono ?_
  rintro e w1 ⟨rfl, b1, z1, s1, o1⟩
  have hbx : w1.cell? ⟨w.heap.size, 0, none⟩ = some (.slice (some ⟨g, 0, none⟩) n cap) := by
    have hgl := (ho.lt g rfl).2
    rw [World.cell?_of_block (o1 w.heap.size (by omega))]; simp
  have HB1 := hid b1
  have HZ1 := hid z1
  have HS1 := hid s1
  have HO1 := hid o1
  clear b1 z1 s1 o1
  go_wp2_with fail
  go_ret
  refine ⟨by simp, ?_, HS1.out, ?_, fun b hb hg => (HO1.out b hg).trans (HB0.out.block b hb)⟩
  · exact (HB0.out.mono hB).trans HB1.out
  · have := HZ1.out; simp at this; omega
def digF : Nat → Nat → ByteArray → ByteArray
  | 0, _, s => s
  | n + 1, k, s => if k = 0 then s else digF n (k / 10) (strOfNums [48 + (k : Int) % 10] ++ s)
def mkT (k : Nat) : ByteArray := if k = 0 then ⟨#[109, 48]⟩ else ⟨#[109]⟩ ++ digF k k ByteArray.empty
theorem digF_zero {n : Nat} {s : ByteArray} : digF n 0 s = s := by cases n <;> simp [digF]
theorem digF_step {n k : Nat} {s : ByteArray} (hk : 0 < k) (hn : k ≤ n) : digF n k s = digF (n - 1) (k / 10) (strOfNums [48 + (k : Int) % 10] ++ s) := by
  obtain ⟨m, rfl⟩ : ∃ m, n = m + 1 := ⟨n - 1, by omega⟩
  simp only [digF, Nat.add_sub_cancel]; rw [if_neg (by omega)]
theorem markTextC (k : Nat) (w : World) (hk : k ≤ 10000000000000) :
    Calls Tryz.prog 36 #[.int .i64 (k : Int)] w fun e w' => e = .returned (.string (mkT k)) ∧ Below w.heap.size w w' := by
  by_cases h0 : k = 0
  · subst h0
    go_enter Tryz.func36, Tryz.ntmps36
    go_wp2_with fail
    go_ret
    exact ⟨rfl, Below.refl _ _⟩
  · have d0 : decide ((k : Int) ≤ 0) = false := by simp; omega
    have d1 : decide (k ≤ 0) = false := by simp; omega
    go_enter Tryz.func36, Tryz.ntmps36
    go_wp2_with fail
    go_loopw [0, 3] (fun q s wr => ∃ (j n : Nat) (t : ByteArray), j ≤ n ∧ j ≤ k ∧ q = .int .i64 (j : Int) ∧ s = .string t ∧ Hid (digF k k ByteArray.empty = digF n j t) ∧ t.size + n ≤ 10000000000000 + 1 ∧ Hid (Below w.heap.size w wr)) (fun q _ _ => (intOf q).toNat)
    case atStart => exact ⟨k, k, ByteArray.empty, Nat.le_refl _, Nat.le_refl _, rfl, rfl, hid rfl, by simp; omega, hid (Below.refl _ _)⟩
    case round =>
      obtain ⟨j, n, t, hj, hjk, rfl, rfl, HE, hts, HB⟩ := hrel
      by_cases hp : 0 < j
      · have p1 : decide (0 < (j : Int)) = true := by simp; omega
        have p2 : decide (0 < j) = true := by simp; omega
        have hcv := run_convert_bytes_arg (P := Tryz.prog) (wr.alloc (.cells #[.int .u8 (48 + (j : Int) % 10)] 5)) 22 5 Tryz.underlying22 Tryz.underlying5 wr.heap.size 0 1 1 [48 + (j : Int) % 10] rfl (fun i hi => by (obtain rfl : i = 0 := (by omega)); simp) 9 Tryz.underlying9
        have hsz := strOfNums_size [48 + (j : Int) % 10]
        have HE2 : Hid (digF k k ByteArray.empty = digF (n - 1) (j / 10) (strOfNums [48 + (j : Int) % 10] ++ t)) := hid (by rw [HE.out, digF_step hp hj])
        obtain ⟨D, hD⟩ : ∃ D, strOfNums [48 + (j : Int) % 10] = D := ⟨_, rfl⟩
        rw [hD] at hcv hsz HE2
        have hsz1 : D.size = 1 := hsz
        obtain ⟨m, hm⟩ : ∃ m, j / 10 = m := ⟨_, rfl⟩
        have hq : IntKind.i64.wrap ((j : Int).tdiv 10) = (m : Int) := by rw [IntKind.wrap_i64, Int.tdiv_eq_ediv_of_nonneg (by omega)]; omega
        rw [hm] at HE2
        have hmj : m < j := by omega
        have HMJ := hid hm
        clear hm
        have hadd := fun w => run_string_add_sum (P := Tryz.prog) (w := w) D t (by omega)
        have HB2 := hid (HB.out.alloc HB.out.size (.cells #[.int .u8 (48 + (j : Int) % 10)] 5))
        clear hD hsz
        go_wp2_with fail
        go_roundw
        case rel => exact ⟨m, n - 1, D ++ t, by omega, by omega, by have := HMJ.out; congr 1; omega, rfl, HE2, by rw [ByteArray.size_append]; omega, HB2⟩
        case measure => simp [intOf]; omega
      · obtain rfl : j = 0 := by omega
        have HT : Hid (mkT k = ⟨#[109]⟩ ++ t) := hid (by unfold mkT; rw [if_neg h0, HE.out, digF_zero])
        have hadd := fun w => run_string_add_sum (P := Tryz.prog) (w := w) ⟨#[109]⟩ t (by have : (⟨#[109]⟩ : ByteArray).size = 1 := rfl; omega)
        go_wp2_with fail
        go_ret
        exact ⟨by rw [HT.out]; rfl, HB.out⟩
theorem heap_set_same {w : World} {g i : Nat} {cur : Array Value} {t : TypeId} {f : Nat × Nat} {u : Value} (h : w.heap[g]? = some (.cells cur t f)) : (w.setCell ⟨g, i, none⟩ u).heap[g]? = some (.cells (cur.setIfInBounds i u) t f) := by
  simp [World.setCell, Array.getElem?_modify, h]
def Wr (w : World) (g : Nat) (t : TypeId) (n : Nat) (C : Nat → Value) : Prop := ∃ cur, w.heap[g]? = some (.cells cur t (0, 0)) ∧ n ≤ cur.size ∧ ∀ i, i < n → cur[i]? = some (C i)
theorem Wr.cell {w : World} {g n : Nat} {t : TypeId} {C : Nat → Value} (h : Wr w g t n C) {i : Nat} (hi : i < n) : w.cell? ⟨g, i, none⟩ = some (C i) := by
  obtain ⟨cur, h1, h2, h3⟩ := h
  simp [World.cell?, h1, h3 i hi]
theorem Wr.frozen {w : World} {g n : Nat} {t : TypeId} {C : Nat → Value} (h : Wr w g t n C) (i : Nat) : w.frozen? ⟨g, i, none⟩ = false := by
  obtain ⟨cur, h1, h2, h3⟩ := h
  simp [World.frozen?, h1]
theorem Wr.set {w : World} {g n : Nat} {t : TypeId} {C : Nat → Value} (h : Wr w g t n C) (i : Nat) (u : Value) : Wr (w.setCell ⟨g, i, none⟩ u) g t n (fun j => if j = i then u else C j) := by
  obtain ⟨cur, h1, h2, h3⟩ := h
  refine ⟨_, heap_set_same h1, by simpa using h2, fun j hj => ?_⟩
  rw [Array.getElem?_setIfInBounds]
  by_cases e : i = j
  · subst e; rw [if_pos rfl, if_pos (by omega)]; simp
  · rw [if_neg e]; show cur[j]? = some (if j = i then u else C j); rw [if_neg (Ne.symm e)]; exact h3 j hj
theorem Wr.same {w w' : World} {g n : Nat} {t : TypeId} {C : Nat → Value} (h : Wr w g t n C) (e : w'.heap[g]? = w.heap[g]?) : Wr w' g t n C := by
  obtain ⟨cur, h1, r⟩ := h; exact ⟨cur, e.trans h1, r⟩
theorem Wr.ext {w : World} {g n : Nat} {t : TypeId} {C C' : Nat → Value} (h : Wr w g t n C) (e : ∀ i, i < n → C i = C' i) : Wr w g t n C' := by
  obtain ⟨cur, h1, h2, h3⟩ := h; exact ⟨cur, h1, h2, fun i hi => by rw [← e i hi]; exact h3 i hi⟩
theorem Wr.lt {w : World} {g n : Nat} {t : TypeId} {C : Nat → Value} (h : Wr w g t n C) : g < w.heap.size := by
  obtain ⟨cur, h1, _⟩ := h; exact (Array.getElem?_eq_some_iff.1 h1).1
theorem PMk.wr {w : World} {g n : Nat} (h : PMk w g n) : ∃ C, Wr w g 9 n C := by
  obtain ⟨cur, h1, h2⟩ := h
  exact ⟨fun i => cur.getD i default, cur, h1, h2, fun i hi => by simp [Array.getD, show i < cur.size by omega]⟩
theorem Wr.pmk {w : World} {g n : Nat} {C : Nat → Value} (h : Wr w g 9 n C) : PMk w g n := by
  obtain ⟨cur, h1, h2, _⟩ := h; exact ⟨cur, h1, h2⟩
theorem PMk.any {w : World} {g n b i : Nat} {u : Value} (h : PMk w g n) : PMk (w.setCell ⟨b, i, none⟩ u) g n := by
  by_cases e : b = g
  · subst e
    obtain ⟨cur, h1, h2⟩ := h
    exact ⟨_, heap_set_same h1, by simpa using h2⟩
  · exact h.set _ _ (Ne.symm e)
theorem grown_setM {w w' : World} {g : Nat} (h : w.grownBy w' (some g)) (i : Nat) (u : Value) : w.grownBy (w'.setCell ⟨g, i, none⟩ u) (some g) :=
  ⟨h.os, h.tape, h.output, by simpa [World.setCell] using h.size, fun k hk hne => (Below.heap_setCell _ _ _ _ (fun e => hne (by rw [e]))).trans (h.block k hk hne)⟩
theorem grown_belowM {w w1 w' : World} {g : Nat} (h : w.grownBy w1 (some g)) (hb : Below w1.heap.size w1 w') : w.grownBy w' (some g) :=
  ⟨hb.os.trans h.os, hb.tape.trans h.tape, hb.output.trans h.output, Nat.le_trans h.size hb.size, fun k hk hne => (hb.block k (Nat.lt_of_lt_of_le hk h.size)).trans (h.block k hk hne)⟩
theorem grown_reflM {w : World} (r : Option Nat) : w.grownBy w r := ⟨rfl, rfl, rfl, Nat.le_refl _, fun _ _ _ => rfl⟩
theorem markStrings (g n c k0 : Nat) (C : Nat → Value) (w : World) (hk : k0 + n ≤ 10000000000000) (h : Wr w g 9 n C) :
    Calls Tryz.prog 35 #[.slice (some ⟨g, 0, none⟩) n c, .int .i64 (k0 : Int)] w fun e w' => e = .returned (.int .i64 ((k0 + n : Nat) : Int)) ∧ w.grownBy w' (some g) ∧ Wr w' g 9 n (fun i => .string (mkT (k0 + i))) ∧ ∀ g' n', PMk w g' n' → PMk w' g' n' := by
  have HW := hid h
  clear h
  go_enter Tryz.func35, Tryz.ntmps35
  go_wp2_with fail
  go_loopw [1, 5] (fun q i wr => ∃ (j m : Nat), j ≤ n ∧ m = k0 + j ∧ i = .int .i64 (j : Int) ∧ q = .int .i64 (m : Int) ∧ Hid (w.grownBy wr (some g)) ∧ Hid (Wr wr g 9 n (fun t => if t < j then .string (mkT (k0 + t)) else C t)) ∧ Hid (∀ g' n', PMk w g' n' → PMk wr g' n')) (fun _ i _ => n - (intOf i).toNat)
  case atStart => exact ⟨0, k0, Nat.zero_le _, rfl, rfl, rfl, hid (grown_reflM _), hid (HW.out.ext fun i _ => by simp), hid (fun _ _ h => h)⟩
  case round =>
    obtain ⟨j, m, hj, hm, rfl, rfl, HG, HC, HPM⟩ := hrel
    by_cases hlt : j < n
    · have i1 : (0 : Int) ≤ (j : Int) := Int.natCast_nonneg _
      have i2 : (j : Int) < (n : Int) := by omega
      have HT := hid (markTextC m wr (by omega))
      have HM := hid hm
      obtain ⟨s, hs⟩ : ∃ s, mkT m = s := ⟨_, rfl⟩
      rw [hs] at HT
      have HS := hid hs
      clear hs hm
      go_wp2_with fail
      refine HT.out.mono ?_
      rintro e w1 ⟨rfl, b1⟩
      have W1 := HC.out.same (b1.block g HC.out.lt)
      have c0 := W1.cell hlt
      have f0 := W1.frozen j
      rw [if_neg (by omega)] at c0
      have HG1 := hid (grown_setM (grown_belowM HG.out b1) j (.string s))
      have HC1 := hid (W1.set j (.string s))
      have HPM1 : Hid (∀ g' n', PMk w g' n' → PMk (w1.setCell ⟨g, j, none⟩ (.string s)) g' n') := hid (fun g' n' h => by
        have h1 := HPM.out g' n' h
        obtain ⟨cur, h2, h3⟩ := h1
        exact PMk.any ⟨cur, (b1.block g' (Array.getElem?_eq_some_iff.1 h2).1).trans h2, h3⟩)
      have hm1 : (m : Int) + 1 ≤ 9223372036854775807 := by have := HM.out; omega
      clear b1 HT W1
      obtain ⟨v0, hv0⟩ : ∃ v0, C j = v0 := ⟨_, rfl⟩
      rw [hv0] at c0
      clear hv0
      go_wp2_with fail
      go_roundw
      case rel =>
        refine ⟨j + 1, m + 1, hlt, by have := HM.out; omega, by go_num, by go_num, HG1, hid (HC1.out.ext fun i hi => ?_), HPM1⟩
        by_cases e : i = j
        · subst e; rw [if_pos rfl, if_pos (by omega), ← HS.out, HM.out]
        · rw [if_neg e]
          by_cases e2 : i < j
          · rw [if_pos e2, if_pos (by omega)]
          · rw [if_neg e2, if_neg (by omega)]
      case measure => simp [intOf]; omega
    · obtain rfl : j = n := by omega
      have HC1 := hid (HC.out.ext (C' := fun i => .string (mkT (k0 + i))) fun i hi => if_pos hi)
      have HM := hid hm
      clear hm HC
      go_wp2_with fail
      go_ret
      exact ⟨by rw [← HM.out]; rfl, HG.out, HC1.out, HPM.out⟩
structure Btw (lo hi : Nat) (w w' : World) : Prop where
  os : w'.os = w.os
  tape : w'.tape = w.tape
  output : w'.output = w.output
  size : w.heap.size ≤ w'.heap.size
  block : ∀ g, g < w.heap.size → (g < lo ∨ hi ≤ g) → w'.heap[g]? = w.heap[g]?
theorem Btw.refl (lo hi : Nat) (w : World) : Btw lo hi w w := ⟨rfl, rfl, rfl, Nat.le_refl _, fun _ _ _ => rfl⟩
theorem Btw.trans {lo hi : Nat} {a b c : World} (h : Btw lo hi a b) (k : Btw lo hi b c) : Btw lo hi a c :=
  ⟨k.os.trans h.os, k.tape.trans h.tape, k.output.trans h.output, Nat.le_trans h.size k.size, fun g hg ho => (k.block g (Nat.lt_of_lt_of_le hg h.size) ho).trans (h.block g hg ho)⟩
theorem Btw.of {lo hi g : Nat} {w w' : World} (h : w.grownBy w' (some g)) (h1 : lo ≤ g) (h2 : g < hi) : Btw lo hi w w' :=
  ⟨h.os, h.tape, h.output, h.size, fun k hk ho => h.block k hk (fun e => by injection e with e; omega)⟩
theorem Btw.below {lo hi : Nat} {w w' : World} (h : Below w.heap.size w w') : Btw lo hi w w' := ⟨h.os, h.tape, h.output, h.size, fun k hk _ => h.block k hk⟩
theorem Btw.set {lo hi : Nat} {w w' : World} (h : Btw lo hi w w') (q : Addr) (u : Value) (h1 : lo ≤ q.block) (h2 : q.block < hi) : Btw lo hi w (w'.setCell q u) :=
  ⟨h.os, h.tape, h.output, by simpa [World.setCell] using h.size, fun g hg ho => (Below.heap_setCell _ _ _ _ (by omega)).trans (h.block g hg ho)⟩
theorem Btw.low {lo hi : Nat} {w w' : World} (h : Btw lo hi w w') (hl : lo ≤ w.heap.size) : Below lo w w' := ⟨h.os, h.tape, h.output, h.size, fun g hg => h.block g (by omega) (.inl hg)⟩
def LAt (w : World) (b off : Nat) (l : List Lf) (i m : Nat) : Prop := b < w.heap.size ∧ ∀ t, t < m → ∃ qa qc, w.cell? ⟨b, off + t * 5, none⟩ = some (.slice qa (gL l (i + t)).p.length qc) ∧ SSeg w qa (gL l (i + t)).p ∧ w.cell? ⟨b, off + t * 5 + 1, none⟩ = some (.bool (gL l (i + t)).fl) ∧ w.cell? ⟨b, off + t * 5 + 2, none⟩ = some (.int .i64 (gL l (i + t)).r) ∧ w.cell? ⟨b, off + t * 5 + 3, none⟩ = some (.int .i64 (gL l (i + t)).q) ∧ w.cell? ⟨b, off + t * 5 + 4, none⟩ = some (.string (gL l (i + t)).v)
theorem LAt.below {w w' : World} {b off i m : Nat} {l : List Lf} (h : LAt w b off l i m) (hb : Below w.heap.size w w') : LAt w' b off l i m :=
  ⟨Nat.lt_of_lt_of_le h.1 hb.size, fun t ht => by
    obtain ⟨qa, qc, h0, h1, h2, h3, h4, h5⟩ := h.2 t ht
    exact ⟨qa, qc, (hb.cell (p := ⟨b, _, none⟩) h.1).trans h0, h1.below hb, (hb.cell (p := ⟨b, _, none⟩) h.1).trans h2, (hb.cell (p := ⟨b, _, none⟩) h.1).trans h3, (hb.cell (p := ⟨b, _, none⟩) h.1).trans h4, (hb.cell (p := ⟨b, _, none⟩) h.1).trans h5⟩⟩
theorem LAt.take {w : World} {b off i m k : Nat} {l : List Lf} (h : LAt w b off l i m) (hk : k ≤ m) : LAt w b off l i k := ⟨h.1, fun t ht => h.2 t (by omega)⟩
theorem LAt.drop {w : World} {b off i m k : Nat} {l : List Lf} (h : LAt w b off l i m) (hk : k ≤ m) : LAt w b (off + k * 5) l (i + k) (m - k) := ⟨h.1, fun t ht => by
  have := h.2 (k + t) (by omega)
  rw [show off + (k + t) * 5 = off + k * 5 + t * 5 by omega, show i + (k + t) = i + k + t by omega] at this
  exact this⟩
def kAt (d n : Nat) (fl : Bool) : Int := if d + 1 < n then 3 else kd fl
theorem l4KindC (pa : Option Addr) (n pc : Nat) (fl : Bool) (r q : Int) (v : ByteArray) (d : Nat) (w : World) (hn : n ≤ 1048576) (hd : d ≤ 1000) :
    Calls Tryz.prog 67 #[.agg #[.slice pa n pc, .bool fl, .int .i64 r, .int .i64 q, .string v], .int .i64 (d : Int)] w fun e w' => e = .returned (.int .i64 (kAt d n fl)) ∧ Below w.heap.size w w' := by
  have HB := hid ((Below.refl w.heap.size w).alloc (Nat.le_refl _) (.cells #[.slice pa n pc, .bool fl, .int .i64 r, .int .i64 q, .string v] 89))
  by_cases h : d + 1 < n
  · have h1 : (d : Int) + 1 < (n : Int) := by omega
    have HK : Hid (kAt d n fl = 3) := hid (if_pos h)
    go_enter Tryz.func67, Tryz.ntmps67
    go_wp2_with fail
    go_ret
    exact ⟨by rw [HK.out]; rfl, HB.out⟩
  · have h1 : ¬ (d : Int) + 1 < (n : Int) := by omega
    cases fl with
    | true =>
      have HK : Hid (kAt d n true = 2) := hid (if_neg h)
      go_enter Tryz.func67, Tryz.ntmps67
      go_wp2_with fail
      go_ret
      exact ⟨by rw [HK.out]; rfl, HB.out⟩
    | false =>
      have HK : Hid (kAt d n false = 1) := hid (if_neg h)
      go_enter Tryz.func67, Tryz.ntmps67
      go_wp2_with fail
      go_ret
      exact ⟨by rw [HK.out]; rfl, HB.out⟩
theorem l4GroupC (l : List Lf) (b off i m c d : Nat) (w : World) (hm : 1 ≤ m) (hm2 : m ≤ 1048576) (hd : d ≤ 1000) (hp : ∀ t, t < m → d < (gL l (i + t)).p.length ∧ (gL l (i + t)).p.length ≤ 1048576) (h : LAt w b off l i m) :
    Calls Tryz.prog 66 #[.slice (some ⟨b, off, none⟩) m c, .int .i64 (d : Int)] w fun e w' => (∃ g : Nat, e = .returned (.int .i64 (g : Int)) ∧ 1 ≤ g ∧ g ≤ m ∧ (∀ t, t < g → onWay (gL l (i + t)).p (kd (gL l (i + t)).fl) d = onWay (gL l i).p (kd (gL l i).fl) d) ∧ (g < m → onWay (gL l (i + g)).p (kd (gL l (i + g)).fl) d ≠ onWay (gL l i).p (kd (gL l i).fl) d)) ∧ Below w.heap.size w w' := by
  have HL := hid h
  have HP := hid hp
  clear h hp
  go_enter Tryz.func66, Tryz.ntmps66
  go_wp2_with fail
  go_loopw [5] (fun i' wr => ∃ k : Nat, k ≤ m ∧ i' = .int .i64 k ∧ Hid (∀ t, t < k → onWay (gL l (i + t)).p (kd (gL l (i + t)).fl) d = onWay (gL l i).p (kd (gL l i).fl) d) ∧ Hid (Below w.heap.size w wr)) (fun i' _ => m - (intOf i').toNat)
  case atStart => exact ⟨0, Nat.zero_le _, rfl, hid (fun t ht => by omega), hid (Below.refl _ _)⟩
  case round =>
    obtain ⟨k, hk, rfl, HE, HB⟩ := hrel
    by_cases hlt : k < m
    · have HLr := HL.out.below HB.out
      obtain ⟨qa, kc, h0, hs, h1, h2, h3, h4⟩ := HLr.2 k hlt
      obtain ⟨qz, zc, g0, gs, g1, g2, g3, g4⟩ := HLr.2 0 (by omega)
      have hpk := HP.out k hlt
      have hpz := HP.out 0 (by omega)
      simp only [Nat.add_zero, Nat.zero_mul] at g0 gs g1 g2 g3 g4 hpz
      rcases hs with hs | ⟨kb, ko, rfl, hkb, hkc⟩
      · omega
      rcases gs with gs | ⟨zb, zo, rfl, hzb, hzc⟩
      · omega
      have h5 := hkc d hpk.1
      have g5 := hzc d hpz.1
      have HSAME : Hid (k = 0 → gL l (i + k) = gL l i) := hid (fun e => by rw [e, Nat.add_zero])
      have HNXT : Hid (onWay (gL l (i + k)).p (kd (gL l (i + k)).fl) d = onWay (gL l i).p (kd (gL l i).fl) d ↔ gS (gL l (i + k)).p d = gS (gL l i).p d ∧ kAt d (gL l (i + k)).p.length (gL l (i + k)).fl = kAt d (gL l i).p.length (gL l i).fl) := hid (by unfold onWay kAt; exact Prod.mk.injEq _ _ _ _ ▸ Iff.rfl)
      have HEND : Hid (onWay (gL l (i + k)).p (kd (gL l (i + k)).fl) d ≠ onWay (gL l i).p (kd (gL l i).fl) d → 1 ≤ k) := hid (fun hne => by
        rcases Nat.eq_zero_or_pos k with e | e
        · exact absurd (by rw [HSAME.out e]) hne
        · exact e)
      have HNE : Hid (∀ v, onWay (gL l (i + k)).p (kd (gL l (i + k)).fl) d ≠ onWay (gL l i).p (kd (gL l i).fl) d → v = k → (1 ≤ v ∧ v ≤ m ∧ (∀ t, t < v → onWay (gL l (i + t)).p (kd (gL l (i + t)).fl) d = onWay (gL l i).p (kd (gL l i).fl) d) ∧ (v < m → onWay (gL l (i + v)).p (kd (gL l (i + v)).fl) d ≠ onWay (gL l i).p (kd (gL l i).fl) d))) := hid (fun v h e => by subst e; exact ⟨HEND.out h, hk, HE.out, fun _ => h⟩)
      have HGO : Hid (onWay (gL l (i + k)).p (kd (gL l (i + k)).fl) d = onWay (gL l i).p (kd (gL l i).fl) d → ∀ t, t < k + 1 → onWay (gL l (i + t)).p (kd (gL l (i + t)).fl) d = onWay (gL l i).p (kd (gL l i).fl) d) := hid (fun h t ht => by
        by_cases e : t = k
        · subst e; exact h
        · exact HE.out t (by omega))
      obtain ⟨X, hX⟩ : ∃ X, (onWay (gL l (i + k)).p (kd (gL l (i + k)).fl) d = onWay (gL l i).p (kd (gL l i).fl) d) = X := ⟨_, rfl⟩
      have HX := hid hX
      rw [hX] at HNXT
      clear hkc hzc
      obtain ⟨yk, hyk⟩ : ∃ y, gL l (i + k) = y := ⟨_, rfl⟩
      obtain ⟨yz, hyz⟩ : ∃ y, gL l i = y := ⟨_, rfl⟩
      rw [hyk] at h0 h1 h2 h3 h4 h5 hpk HNXT
      rw [hyz] at g0 g1 g2 g3 g4 g5 hpz HNXT
      clear hyk hyz
      obtain ⟨kp, kf, kr, kq, kv⟩ := yk
      obtain ⟨zp, zf, zr, zq, zv⟩ := yz
      dsimp only at h0 h1 h2 h3 h4 h5 hpk g0 g1 g2 g3 g4 g5 hpz HNXT
      clear hX
      obtain ⟨s, hs'⟩ : ∃ s, gS kp d = s := ⟨_, rfl⟩
      obtain ⟨z, hz'⟩ : ∃ z, gS zp d = z := ⟨_, rfl⟩
      obtain ⟨kn, hkn⟩ : ∃ kn, kp.length = kn := ⟨_, rfl⟩
      obtain ⟨zn, hzn⟩ : ∃ zn, zp.length = zn := ⟨_, rfl⟩
      rw [hs', hz', hkn, hzn] at HNXT
      rw [hs'] at h5
      rw [hz'] at g5
      rw [hkn] at h0 hpk
      rw [hzn] at g0 hpz
      have i1 : (0 : Int) ≤ (k : Int) := Int.natCast_nonneg _
      have i2 : (k : Int) < (m : Int) := by omega
      have i3 : (0 : Int) ≤ (d : Int) := Int.natCast_nonneg _
      have i4 : (d : Int) < (kn : Int) := by omega
      have i5 : (d : Int) < (zn : Int) := by omega
      have i6 : (0 : Int) < (m : Int) := by omega
      have i7 : 0 < m := by omega
      have hbr : b < wr.heap.size := HLr.1
      clear hs' hz' hkn hzn HLr
      have dk : decide ((k : Int) < (m : Int)) = true := by simp; omega
      have dk2 : decide (k < m) = true := by simp; omega
      go_wp2_with fail
      cases hsz : (s.toList == z.toList) with
      | false =>
        have HNX : Hid (¬ X) := hid (fun h => by rw [(HNXT.out.1 h).1] at hsz; simp at hsz)
        go_quiet (fail)
        have HBq := hid (below_drewS HB.out nq)
        go_wp2_with fail
        go_ret
        exact ⟨⟨k, rfl, HNE.out k (fun h => HNX.out (by rw [← HX.out]; exact h)) rfl⟩, HBq.out⟩
      | true =>
        have HSZ : Hid (s = z) := hid (toList_inj (by simpa using hsz))
        have HCS : Hid (∀ w', Below wr.heap.size wr w' → (Below wr.heap.size wr w' ∧ w'.cell? ⟨b, off + k * 5, none⟩ = some (.slice (some ⟨kb, ko, none⟩) kn kc) ∧ w'.cell? ⟨b, off + k * 5 + 1, none⟩ = some (.bool kf) ∧ w'.cell? ⟨b, off + k * 5 + 2, none⟩ = some (.int .i64 kr) ∧ w'.cell? ⟨b, off + k * 5 + 3, none⟩ = some (.int .i64 kq) ∧ w'.cell? ⟨b, off + k * 5 + 4, none⟩ = some (.string kv) ∧ w'.cell? ⟨kb, ko + d, none⟩ = some (.string s) ∧ w'.cell? ⟨b, off, none⟩ = some (.slice (some ⟨zb, zo, none⟩) zn zc) ∧ w'.cell? ⟨b, off + 1, none⟩ = some (.bool zf) ∧ w'.cell? ⟨b, off + 2, none⟩ = some (.int .i64 zr) ∧ w'.cell? ⟨b, off + 3, none⟩ = some (.int .i64 zq) ∧ w'.cell? ⟨b, off + 4, none⟩ = some (.string zv) ∧ w'.cell? ⟨zb, zo + d, none⟩ = some (.string z))) := hid (fun w' hB => ⟨hB, (hB.cell (p := ⟨b, _, none⟩) hbr).trans h0, (hB.cell (p := ⟨b, _, none⟩) hbr).trans h1, (hB.cell (p := ⟨b, _, none⟩) hbr).trans h2, (hB.cell (p := ⟨b, _, none⟩) hbr).trans h3, (hB.cell (p := ⟨b, _, none⟩) hbr).trans h4, (hB.cell (p := ⟨kb, _, none⟩) hkb).trans h5, (hB.cell (p := ⟨b, _, none⟩) hbr).trans g0, (hB.cell (p := ⟨b, _, none⟩) hbr).trans g1, (hB.cell (p := ⟨b, _, none⟩) hbr).trans g2, (hB.cell (p := ⟨b, _, none⟩) hbr).trans g3, (hB.cell (p := ⟨b, _, none⟩) hbr).trans g4, (hB.cell (p := ⟨zb, _, none⟩) hzb).trans g5⟩)
        clear h0 h1 h2 h3 h4 h5 g0 g1 g2 g3 g4 g5
        refine wp_region_held_drew (S := fun w' => Below wr.heap.size wr w' ∧ w'.cell? ⟨b, off + k * 5, none⟩ = some (.slice (some ⟨kb, ko, none⟩) kn kc) ∧ w'.cell? ⟨b, off + k * 5 + 1, none⟩ = some (.bool kf) ∧ w'.cell? ⟨b, off + k * 5 + 2, none⟩ = some (.int .i64 kr) ∧ w'.cell? ⟨b, off + k * 5 + 3, none⟩ = some (.int .i64 kq) ∧ w'.cell? ⟨b, off + k * 5 + 4, none⟩ = some (.string kv) ∧ w'.cell? ⟨kb, ko + d, none⟩ = some (.string s) ∧ w'.cell? ⟨b, off, none⟩ = some (.slice (some ⟨zb, zo, none⟩) zn zc) ∧ w'.cell? ⟨b, off + 1, none⟩ = some (.bool zf) ∧ w'.cell? ⟨b, off + 2, none⟩ = some (.int .i64 zr) ∧ w'.cell? ⟨b, off + 3, none⟩ = some (.int .i64 zq) ∧ w'.cell? ⟨b, off + 4, none⟩ = some (.string zv) ∧ w'.cell? ⟨zb, zo + d, none⟩ = some (.string z)) (by kernel_rfl) (HCS.out _ (Below.refl _ _).drew) (fun hHeld => ?_)
        refine tk 0 6 ?_ (by kernel_rfl) (fun _ _ _ h => h) ?_ hHeld (tk 1 7 ?_ (by kernel_rfl) (fun _ _ _ h => h) ?_ hHeld (tk 2 8 ?_ (by kernel_rfl) (fun _ _ _ h => h) ?_ hHeld (tk 3 9 ?_ (by kernel_rfl) (fun _ _ _ h => h) ?_ hHeld ?_)))
        iterate 4 (rotate_left; focus (intro o ho; simp only [gZa, gZb, gZc, gZd] at ho; subst ho; refine Or.inl ⟨by rfl, ?_⟩; intro w hSw; (try dsimp only at hSw); (try simp only [Act.put, sZa, sZb, sZc]); go_simp; try with_reducible rfl))
        try simp only [Act.put, sZa, sZb, sZc]
        refine tk 4 10 ?_ (by kernel_rfl) (fun _ _ _ h => h) ?_ hHeld (tk 5 11 ?_ (by kernel_rfl) (fun _ _ _ h => h) ?_ hHeld (tk 6 12 ?_ (by kernel_rfl) (fun _ _ _ h => h) ?_ hHeld (tk 7 13 ?_ (by kernel_rfl) (fun _ _ _ h => h) ?_ hHeld ?_)))
        iterate 4 (rotate_left; focus (intro o ho; simp only [gZa, gZb, gZc, gZd] at ho; subst ho; refine Or.inl ⟨by rfl, ?_⟩; intro w hSw; (try dsimp only at hSw); (try simp only [Act.put, sZa, sZb, sZc]); go_simp; try with_reducible rfl))
        try simp only [Act.put, sZa, sZb, sZc]
        refine tk 8 14 ?_ (by kernel_rfl) (fun _ _ _ h => h) ?_ hHeld (tk 9 15 ?_ (by kernel_rfl) (fun _ _ _ h => h) ?_ hHeld (tk 10 16 ?_ (by kernel_rfl) (fun _ _ _ h => h) ?_ hHeld (tk 11 17 ?_ (by kernel_rfl) (fun _ _ _ h => h) ?_ hHeld ?_)))
        iterate 4 (rotate_left; focus (intro o ho; simp only [gZa, gZb, gZc, gZd] at ho; subst ho; refine Or.inl ⟨by rfl, ?_⟩; intro w hSw; (try dsimp only at hSw); (try simp only [Act.put, sZa, sZb, sZc]); go_simp; try with_reducible rfl))
        try simp only [Act.put, sZa, sZb, sZc]
        refine tk 12 18 ?_ (by kernel_rfl) (fun _ _ _ h => h) ?_ hHeld (tk 13 19 ?_ (by kernel_rfl) (fun _ _ _ h => h) ?_ hHeld (tk 14 20 ?_ (by kernel_rfl) (fun _ _ _ h => h) ?_ hHeld (tk 15 21 ?_ (by kernel_rfl) (fun _ _ _ h => h) ?_ hHeld ?_)))
        iterate 4 (rotate_left; focus (intro o ho; simp only [gZa, gZb, gZc, gZd] at ho; subst ho; refine Or.inl ⟨by rfl, ?_⟩; intro w hSw; (try dsimp only at hSw); (try simp only [Act.put, sZa, sZb, sZc]); go_simp; try with_reducible rfl))
        try simp only [Act.put, sZa, sZb, sZc]
        refine tk 16 22 ?_ (by kernel_rfl) (fun _ _ _ h => h) ?_ hHeld (tk 17 23 ?_ (by kernel_rfl) (fun _ _ _ h => h) ?_ hHeld (tk 18 24 ?_ (by kernel_rfl) (fun _ _ _ h => h) ?_ hHeld (tk 19 25 ?_ (by kernel_rfl) (fun _ _ _ h => h) ?_ hHeld ?_)))
        iterate 4 (rotate_left; focus (intro o ho; simp only [gZa, gZb, gZc, gZd] at ho; subst ho; refine Or.inl ⟨by rfl, ?_⟩; intro w hSw; (try dsimp only at hSw); (try simp only [Act.put, sZa, sZb, sZc]); go_simp; try with_reducible rfl))
        try simp only [Act.put, sZa, sZb, sZc]
        refine tk 20 26 ?_ (by kernel_rfl) (fun _ _ _ h => h) ?_ hHeld (tk 21 27 ?_ (by kernel_rfl) (fun _ _ _ h => h) ?_ hHeld (tk 22 28 ?_ (by kernel_rfl) (fun _ _ _ h => h) ?_ hHeld (tk 23 29 ?_ (by kernel_rfl) (fun _ _ _ h => h) ?_ hHeld ?_)))
        iterate 4 (rotate_left; focus (intro o ho; simp only [gZa, gZb, gZc, gZd] at ho; subst ho; refine Or.inl ⟨by rfl, ?_⟩; intro w hSw; (try dsimp only at hSw); (try simp only [Act.put, sZa, sZb, sZc]); go_simp; try with_reducible rfl))
        try simp only [Act.put, sZa, sZb, sZc]
        refine tk 24 30 ?_ (by kernel_rfl) (fun _ _ _ h => h) ?_ hHeld (tk 25 31 ?_ (by kernel_rfl) (fun _ _ _ h => h) ?_ hHeld (tk 26 32 ?_ (by kernel_rfl) (fun _ _ _ h => h) ?_ hHeld (tk 27 33 ?_ (by kernel_rfl) (fun _ _ _ h => h) ?_ hHeld ?_)))
        iterate 4 (rotate_left; focus (intro o ho; simp only [gZa, gZb, gZc, gZd] at ho; subst ho; refine Or.inl ⟨by rfl, ?_⟩; intro w hSw; (try dsimp only at hSw); (try simp only [Act.put, sZa, sZb, sZc]); go_simp; try with_reducible rfl))
        try simp only [Act.put, sZa, sZb, sZc]
        refine tk 29 35 ?_ (by kernel_rfl) (fun _ _ _ h => h) ?_ hHeld (tk 30 36 ?_ (by kernel_rfl) (fun _ _ _ h => h) ?_ hHeld (tk 31 37 ?_ (by kernel_rfl) (fun _ _ _ h => h) ?_ hHeld (tk 32 38 ?_ (by kernel_rfl) (fun _ _ _ h => h) ?_ hHeld ?_)))
        iterate 4 (rotate_left; focus (intro o ho; simp only [gZa, gZb, gZc, gZd] at ho; subst ho; refine Or.inl ⟨by rfl, ?_⟩; intro w hSw; (try dsimp only at hSw); (try simp only [Act.put, sZa, sZb, sZc]); go_simp; try with_reducible rfl))
        try simp only [Act.put, sZa, sZb, sZc]
        refine call1 (i := 28) (d := some 34) (by kernel_rfl) (by kernel_rfl) ?_
        intro o ho hod K hK; simp only [gZa, gZb, gZc, gZd] at ho; subst ho
        go_simp
        refine (l4KindC (some ⟨kb, ko, none⟩) kn kc kf kr kq kv d _ (by omega) hd).mono ?_
        rintro e w1 ⟨rfl, b1⟩
        have hB1 := keepS hHeld.1 b1
        refine hK.out _ _ (HCS.out _ hB1) (fun hHeld => ?_)
        clear hK K
        try simp only [Act.put, sZa, sZb, sZc]
        refine call1 (i := 33) (d := some 39) (by kernel_rfl) (by kernel_rfl) ?_
        intro o ho hod K hK; simp only [gZa, gZb, gZc, gZd] at ho; subst ho
        go_simp
        refine (l4KindC (some ⟨zb, zo, none⟩) zn zc zf zr zq zv d _ (by omega) hd).mono ?_
        rintro e w2 ⟨rfl, b2⟩
        have hB2 := keepS hB1 b2
        refine hK.out _ _ (HCS.out _ hB2) (fun hHeld => ?_)
        clear hK K
        try simp only [Act.put, sZa, sZb, sZc]
        have HB2 := hid (HB.out.trans (hB2.mono HB.out.size))
        obtain ⟨K1, hK1⟩ : ∃ K1, kAt d kn kf = K1 := ⟨_, rfl⟩
        obtain ⟨K2, hK2⟩ : ∃ K2, kAt d zn zf = K2 := ⟨_, rfl⟩
        rw [hK1, hK2] at HNXT ⊢
        clear hK1 hK2 b1 b2
        cases hkk : (K1 == K2) with
        | false =>
          refine tk 34 40 ?_ (by kernel_rfl) (fun _ _ _ h => h) ?_ hHeld (tk 35 41 ?_ (by kernel_rfl) (fun _ _ _ h => h) ?_ hHeld ?_)
          iterate 2 (rotate_left; focus (intro o ho; simp only [gZa, gZb, gZc, gZd] at ho; subst ho; refine Or.inl ⟨by rfl, ?_⟩; intro w hSw; (try dsimp only at hSw); (try simp only [Act.put, sZa, sZb, sZc]); go_simp; try with_reducible rfl))
          try simp only [Act.put, sZa, sZb, sZc]
          refine wpAnyH_done (by kernel_rfl) ?_ _
          have HNX : Hid (¬ X) := hid (fun h => by rw [(HNXT.out.1 h).2] at hkk; simp at hkk)
          clear hHeld hB1 hB2
          go_wp2_with fail
          go_ret
          exact ⟨⟨k, rfl, HNE.out k (fun h => HNX.out (by rw [← HX.out]; exact h)) rfl⟩, HB2.out⟩
        | true =>
          refine tk 34 40 ?_ (by kernel_rfl) (fun _ _ _ h => h) ?_ hHeld (tk 35 41 ?_ (by kernel_rfl) (fun _ _ _ h => h) ?_ hHeld ?_)
          iterate 2 (rotate_left; focus (intro o ho; simp only [gZa, gZb, gZc, gZd] at ho; subst ho; refine Or.inl ⟨by rfl, ?_⟩; intro w hSw; (try dsimp only at hSw); (try simp only [Act.put, sZa, sZb, sZc]); go_simp; try with_reducible rfl))
          try simp only [Act.put, sZa, sZb, sZc]
          refine wpAnyH_done (by kernel_rfl) ?_ _
          have HNX : Hid X := hid (HNXT.out.2 ⟨HSZ.out, by simpa using hkk⟩)
          clear hHeld hB1 hB2
          go_wp2_with fail
          go_roundw
          case rel => exact ⟨k + 1, hlt, by go_num, hid (HGO.out (by rw [HX.out]; exact HNX.out)), HB2⟩
          case measure => simp [intOf]; omega
    · obtain rfl : k = m := by omega
      have dk : decide ((k : Int) < (k : Int)) = false := by simp
      have dk2 : decide (k < k) = false := by simp
      go_wp2_with fail
      go_quiet (fail)
      have HBq := hid (below_drewS HB.out nq)
      go_wp2_with fail
      go_ret
      exact ⟨⟨k, rfl, hm, Nat.le_refl _, HE.out, fun h => by omega⟩, HBq.out⟩
end Go.Proofs.YtakmpmhjcngbbaaGreatDoor
