import Derived.Test.YtakmpmhjcngbbaaGreatDoorMgg11
import Derived.Test.YtakmpmhjcngbbaaGreatDoorMgg10
set_option linter.unusedVariables false
set_option linter.unusedSimpArgs false
set_option maxRecDepth 100000
set_option maxHeartbeats 40000000
namespace Go.Proofs.YtakmpmhjcngbbaaGreatDoor
open Go.ChangeShapes Go.WideShapes Go.ChangeAt Go.RowKit
def LvOk (R F T : Nat → Int) (n : Nat) (l : List Lf) (k : Nat) : Prop := ∀ i, i < k → LfOk1 (gL l i) ∧ hasK R F T (gL l i).r (gL l i).q (gL l i).q n = true ∧ (0 < i → cmpL (gL l (i - 1)) (gL l i) < 0)
def Dif (x y : Lf) : Prop := ¬ (x.r = y.r ∧ x.q = y.q)
def Dis (l : List Lf) (k : Nat) : Prop := ∀ i, i < k → ∀ j, j < i → Dif (gL l j) (gL l i)
def StOk (R F T : Nat → Int) (n : Nat) (l : List Lf) : Prop := ctxB R F T n = true ∧ l.length ≤ 1000 ∧ LvOk R F T n l l.length ∧ Dis l l.length
theorem LvOk.step {R F T : Nat → Int} {n : Nat} {l : List Lf} {k : Nat} (h : LvOk R F T n l k) (h1 : LfOk1 (gL l k)) (h2 : hasK R F T (gL l k).r (gL l k).q (gL l k).q n = true) (h3 : 0 < k → cmpL (gL l (k - 1)) (gL l k) < 0) : LvOk R F T n l (k + 1) := fun i hi => by
  by_cases e : i = k
  · subst e; exact ⟨h1, h2, h3⟩
  · exact h i (by omega)
theorem Dis.step {l : List Lf} {k : Nat} (h : Dis l k) (h1 : ∀ j, j < k → Dif (gL l j) (gL l k)) : Dis l (k + 1) := fun i hi j hj => by
  by_cases e : i = k
  · subst e; exact h1 j hj
  · exact h i (by omega) j hj
theorem below_drewS {B : Nat} {a w : World} (h : Below B a w) (n : Nat) : Below B a (w.drewN n) := ⟨h.os, h.tape, h.output, h.size, h.block⟩
theorem specStateOk (a : Option Addr) (c : Nat) (l : List Lf) (x : Option Addr) (n d : Nat) (R F T : Nat → Int) (w : World) (hn : l.length ≤ 1048576) (hp : LBd l) (hm : n ≤ 1048576) (h : LCap w a l) (h' : RSeg w x n R F T) :
    Calls Tryz.prog 27 #[.agg #[.slice a l.length c, .slice x n d]] w fun e w' => e = .returned (.bool (yes (StOk R F T n l))) ∧ Below w.heap.size w w' := by
  obtain ⟨W, hW⟩ : ∃ W, w.alloc (.cells #[.slice a l.length c, .slice x n d] 28) = W := ⟨_, rfl⟩
  have b0 : Below w.heap.size w W := by rw [← hW]; exact (Below.refl _ _).alloc (Nat.le_refl _) _
  have zW : w.heap.size < W.heap.size := by rw [← hW]; simp
  have k0 : W.cell? ⟨w.heap.size, 0, none⟩ = some (.slice a l.length c) := by rw [← hW]; simp
  have k1 : W.cell? ⟨w.heap.size, 1, none⟩ = some (.slice x n d) := by rw [← hW]; simp
  have HC := hid (specOk x n d R F T W hm (h'.below b0))
  have HL := hid (h.below b0)
  have HR := hid (h'.below b0)
  have HB0 := hid b0
  clear h h' b0
  obtain ⟨Y, hY⟩ : ∃ Y, yes (StOk R F T n l) = Y := ⟨_, rfl⟩
  have HY := hid hY
  rw [hY]
  clear hY
  go_enter Tryz.func27, Tryz.ntmps27
  go_wp2_with fail
  try rw [hW]
  clear hW
  refine HC.out.mono ?_
  rintro e w1 ⟨rfl, b1⟩
  have m0 := (b1.cell (p := ⟨w.heap.size, 0, none⟩) zW).trans k0
  have m1 := (b1.cell (p := ⟨w.heap.size, 1, none⟩) zW).trans k1
  have HB1 := hid (HB0.out.trans (b1.mono HB0.out.size))
  have HL1 := hid (HL.out.below b1)
  have HR1 := hid (HR.out.below b1)
  have z1 : w.heap.size < w1.heap.size := Nat.lt_of_lt_of_le zW b1.size
  clear HC HL HR HB0 k0 k1 zW b1
  obtain ⟨C, hC⟩ : ∃ C, ctxB R F T n = C := ⟨_, rfl⟩
  have HC := hid hC
  rw [hC]
  clear hC
  cases C with
  | false =>
    have HF : Hid (Y = false) := hid (by rw [← HY.out]; exact yes_f (fun h => by have := h.1; rw [HC.out] at this; cases this))
    go_wp2_with fail
    go_ret
    exact ⟨ret_b HF.out.symm, HB1.out⟩
  | true =>
    by_cases hbig : (1000 : Int) < (l.length : Int)
    · have d0 : decide ((1000 : Int) < (l.length : Int)) = true := by simpa using hbig
      have HF : Hid (Y = false) := hid (by rw [← HY.out]; exact yes_f (fun h => by have := h.2.1; omega))
      go_wp2_with fail
      go_ret
      exact ⟨ret_b HF.out.symm, HB1.out⟩
    · have d0 : decide ((1000 : Int) < (l.length : Int)) = false := by simpa using hbig
      go_wp2_with fail
      clear d0
      go_loopw [3] (fun i wr => ∃ k : Nat, k ≤ l.length ∧ i = .int .i64 k ∧ Hid (Below w1.heap.size w1 wr) ∧ Hid (LvOk R F T n l k ∧ Dis l k)) (fun i _ => l.length - (intOf i).toNat)
      case atStart => exact ⟨0, Nat.zero_le _, rfl, hid (Below.refl _ _), hid ⟨fun i hi => by omega, fun i hi => by omega⟩⟩
      case round =>
        obtain ⟨k, hk, rfl, HBR, HI⟩ := hrel
        have r0 := (HBR.out.cell (p := ⟨w.heap.size, 0, none⟩) z1).trans m0
        have r1 := (HBR.out.cell (p := ⟨w.heap.size, 1, none⟩) z1).trans m1
        by_cases hlt : k < l.length
        · rcases HL1.out with h | ⟨b, off, rfl, hb, hc⟩
          · omega
          obtain ⟨pa, pc, ⟨c0, cp, cq⟩, s, c1, c2, c3, c4⟩ := hc k hlt
          have x0 := (HBR.out.cell (p := ⟨b, off + k * 5, none⟩) hb).trans c0
          have x1 := (HBR.out.cell (p := ⟨b, off + k * 5 + 1, none⟩) hb).trans c1
          have x2 := (HBR.out.cell (p := ⟨b, off + k * 5 + 2, none⟩) hb).trans c2
          have x3 := (HBR.out.cell (p := ⟨b, off + k * 5 + 3, none⟩) hb).trans c3
          have x4 := (HBR.out.cell (p := ⟨b, off + k * 5 + 4, none⟩) hb).trans c4
          have HS := hid (s.below HBR.out)
          have i1 : (0 : Int) ≤ (k : Int) := Int.natCast_nonneg _
          have i2 : (k : Int) < (l.length : Int) := by omega
          have HCC := hid hc
          have zr : w1.heap.size ≤ wr.heap.size := HBR.out.size
          clear hc c0 c1 c2 c3 c4 s m0 m1
          go_wp2_with fail
          obtain ⟨y, hy⟩ : ∃ y, gL l k = y := ⟨_, rfl⟩
          have hpk := hp k
          rw [hy] at HS x0 x1 x2 x3 x4 cp hpk ⊢
          have HE := hid hy
          clear hy
          obtain ⟨p, fl, r, q, v⟩ := y
          dsimp only at HS x0 x1 x2 x3 x4 cp hpk ⊢
          obtain ⟨W2, hW2⟩ : ∃ W2, wr.alloc (.cells #[.slice pa p.length pc, .bool fl, .int .i64 r, .int .i64 q, .string v] 89) = W2 := ⟨_, rfl⟩
          have b2 : Below wr.heap.size wr W2 := by rw [← hW2]; exact (Below.refl _ _).alloc (Nat.le_refl _) _
          have B5 : Bx5 W2 wr.heap.size (.slice pa p.length pc) (.bool fl) (.int .i64 r) (.int .i64 q) (.string v) := by rw [← hW2]; exact ⟨by simp, by simp, by simp, by simp, by simp, fun i => by simp, by simp⟩
          have t0 := (b2.cell (p := ⟨w.heap.size, 0, none⟩) (show w.heap.size < wr.heap.size by omega)).trans r0
          have t1 := (b2.cell (p := ⟨w.heap.size, 1, none⟩) (show w.heap.size < wr.heap.size by omega)).trans r1
          have y0 := B5.c0
          have y1 := B5.c1
          have y2 := B5.c2
          have y3 := B5.c3
          have y4 := B5.c4
          have HB2 := hid (HBR.out.trans (b2.mono HBR.out.size))
          have HSP := hid (HS.out.below b2)
          have HP := hid (pathSpec p pa pc W2 hpk HSP.out)
          have HA := hid (l2Has x n d R F T r q W2 hm (HR1.out.below HB2.out))
          have z2 : wr.heap.size < W2.heap.size := B5.lt
          have HB5 := hid B5
          rw [hW2]
          clear hW2 b2 B5 x0 x1 x2 x3 x4 r0 r1 HS HBR
          refine HP.out.mono ?_
          rintro e w3 ⟨rfl, rfl⟩
          have HBF := hid (HB1.out.trans (HB2.out.mono HB1.out.size))
          have HNO : Hid (¬ (LfOk1 ⟨p, fl, r, q, v⟩ ∧ hasK R F T r q q n = true ∧ (0 < k → cmpL (gL l (k - 1)) ⟨p, fl, r, q, v⟩ < 0)) → Y = false) := hid (fun no => by
            rw [← HY.out]; exact yes_f (fun h => no (by have := h.2.2.1 k hlt; rw [HE.out] at this; exact this)))
          obtain ⟨Y1, hY1⟩ : ∃ Y1, yes (PthOk p) = Y1 := ⟨_, rfl⟩
          have HY1 := hid hY1
          rw [hY1]
          clear hY1 HP
          cases Y1 with
          | false =>
            have HF := hid (HNO.out (fun h => by have := yes_t h.1.1; rw [HY1.out] at this; cases this))
            clear HNO HA
            go_wp2_with fail
            go_ret
            exact ⟨ret_b HF.out.symm, HBF.out⟩
          | true =>
            by_cases hv : (200 : Int) < (v.size : Int)
            · have d1 : decide ((200 : Int) < (v.size : Int)) = true := by simpa using hv
              have HF := hid (HNO.out (fun h => by have : v.size ≤ 200 := h.1.2.1; omega))
              clear HNO HA
              go_wp2_with fail
              go_ret
              exact ⟨ret_b HF.out.symm, HBF.out⟩
            · have d1 : decide ((200 : Int) < (v.size : Int)) = false := by simpa using hv
              by_cases hbad : fl = true ∧ v.toList.isEmpty = false
              · obtain ⟨rfl, hbad⟩ := hbad
                have HF := hid (HNO.out (fun h => by have : v.toList.isEmpty = true := h.1.2.2 rfl; rw [hbad] at this; cases this))
                clear HNO HA
                go_wp2_with fail
                go_ret
                exact ⟨ret_b HF.out.symm, HBF.out⟩
              · have HOK : Hid (LfOk1 ⟨p, fl, r, q, v⟩) := hid ⟨yes_iff.1 HY1.out, by show v.size ≤ 200; omega, fun e => by
                  show v.toList.isEmpty = true
                  by_cases h : v.toList.isEmpty = true
                  · exact h
                  · exact absurd ⟨e, by simpa using h⟩ hbad⟩
                have HRS := hid hbad
                clear hbad
                clear HY1
                cases fl with
                | true =>
                  have he : v.toList.isEmpty = true := by
                    by_cases h : v.toList.isEmpty = true
                    · exact h
                    · exact absurd ⟨rfl, by simpa using h⟩ HRS.out
                  go_wp2_with fail
                  refine HA.out.mono ?_
                  rintro e w4 ⟨rfl, b4⟩
                  have zt : w.heap.size < w4.heap.size := by have := b4.size; omega
                  have zy : wr.heap.size < w4.heap.size := by have := b4.size; omega
                  have B4 := HB5.out.below b4 z2
                  have t0 := (b4.cell (p := ⟨w.heap.size, 0, none⟩) (show w.heap.size < w3.heap.size by omega)).trans t0
                  have y0 := B4.c0
                  have y1 := B4.c1
                  have y2 := B4.c2
                  have y3 := B4.c3
                  have y4 := B4.c4
                  have HB4 := hid (HB2.out.trans (b4.mono HB2.out.size))
                  have HSK := hid (HSP.out.below b4)
                  have HBF4 := hid (HB1.out.trans (HB4.out.mono HB1.out.size))
                  clear B4 b4 t1 HB5 HSP HBF
                  obtain ⟨A, hA⟩ : ∃ A, hasK R F T r q q n = A := ⟨_, rfl⟩
                  have HHAS := hid hA
                  rw [hA]
                  clear hA
                  cases A with
                  | false =>
                    have HF := hid (HNO.out (fun h => by have := h.2.1; rw [HHAS.out] at this; cases this))
                    clear HNO HCC
                    go_wp2_with fail
                    go_ret
                    exact ⟨ret_b HF.out.symm, HBF4.out⟩
                  | true =>
                    by_cases hk0 : k = 0
                    · have d2 : decide ((0 : Int) < (k : Int)) = false := by simp; omega
                      have d3 : decide (0 < k) = false := by simp; omega
                      have HORD : Hid (0 < k → cmpL (gL l (k - 1)) ⟨p, true, r, q, v⟩ < 0) := hid (fun h => by omega)
                      clear hk0
                      go_wp2_with fail
                      go_quiet (fail)
                      obtain ⟨w5, hw5⟩ : ∃ w5, w4.drewN nq = w5 := ⟨_, rfl⟩
                      have HB5 : Hid (Below w1.heap.size w1 w5) := hid (by rw [← hw5]; exact below_drewS HB4.out _)
                      have t0 : w5.cell? ⟨w.heap.size, 0, none⟩ = some (.slice (some ⟨b, off, none⟩) l.length c) := by rw [← hw5]; exact t0
                      have y2 : w5.cell? ⟨wr.heap.size, 2, none⟩ = some (.int .i64 r) := by rw [← hw5]; exact y2
                      have y3 : w5.cell? ⟨wr.heap.size, 3, none⟩ = some (.int .i64 q) := by rw [← hw5]; exact y3
                      have zt : w.heap.size < w5.heap.size := by rw [← hw5]; exact zt
                      have zy : wr.heap.size < w5.heap.size := by rw [← hw5]; exact zy
                      rw [hw5]
                      clear hw5 d2 d3 HB4 HBF4 HSK y0 y1 y4
                      have HY2 : Hid (∀ wi, Below w5.heap.size w5 wi → wi.cell? ⟨wr.heap.size, 2, none⟩ = some (.int .i64 r)) := hid (fun wi h => (h.cell (p := ⟨wr.heap.size, 2, none⟩) zy).trans y2)
                      have HY3 : Hid (∀ wi, Below w5.heap.size w5 wi → wi.cell? ⟨wr.heap.size, 3, none⟩ = some (.int .i64 q)) := hid (fun wi h => (h.cell (p := ⟨wr.heap.size, 3, none⟩) zy).trans y3)
                      go_wp2_with fail
                      go_loopw [5] (fun i wi => ∃ j : Nat, j ≤ k ∧ i = .int .i64 j ∧ Hid (Below w5.heap.size w5 wi) ∧ Hid (∀ t, t < j → Dif (gL l t) (gL l k))) (fun i _ => k - (intOf i).toNat)
                      case atStart => exact ⟨0, Nat.zero_le _, rfl, hid (Below.refl _ _), hid (fun t ht => by omega)⟩
                      case round =>
                        obtain ⟨j, hj, rfl, HBI, HDI⟩ := hrel
                        have g0 := (HBI.out.cell (p := ⟨w.heap.size, 0, none⟩) zt).trans t0
                        have g2 := HY2.out _ HBI.out
                        have g3 := HY3.out _ HBI.out
                        by_cases hjk : j < k
                        · obtain ⟨ja, jc, _, _, _, c2, c3, _⟩ := HCC.out j (by omega)
                          have j2 := (((HB5.out.trans (HBI.out.mono HB5.out.size)).cell (p := ⟨b, off + j * 5 + 2, none⟩) hb)).trans c2
                          have j3 := (((HB5.out.trans (HBI.out.mono HB5.out.size)).cell (p := ⟨b, off + j * 5 + 3, none⟩) hb)).trans c3
                          obtain ⟨yj, hyj⟩ : ∃ yj, gL l j = yj := ⟨_, rfl⟩
                          rw [hyj] at j2 j3
                          have HEJ := hid hyj
                          obtain ⟨pj, fj, rj, qj, vj⟩ := yj
                          dsimp only at j2 j3
                          have q1 : (0 : Int) ≤ (j : Int) := Int.natCast_nonneg _
                          have q2 : (j : Int) < (l.length : Int) := by omega
                          have q3 : (j : Int) < (k : Int) := by omega
                          have hG := dotGuard
                          have EQ : ∀ w : World, (binOp .eql 87 (.agg #[.int .i64 rj, .int .i64 qj]) (.agg #[.int .i64 r, .int .i64 q])).run Tryz.prog w = .ok (.bool (rj == r && qj == q)) w := fun w => eqlDot rj qj r q w
                          clear hyj c2 c3 t0 y2 y3
                          by_cases hr : rj = r
                          · have e1 : (rj == r) = true := by simpa using hr
                            by_cases hq : qj = q
                            · have e2 : (qj == q) = true := by simpa using hq
                              have EQ : ∀ w : World, (binOp .eql 87 (.agg #[.int .i64 rj, .int .i64 qj]) (.agg #[.int .i64 r, .int .i64 q])).run Tryz.prog w = .ok (.bool true) w := fun w => by rw [EQ w, e1, e2]; rfl
                              have HF : Hid (Y = false) := hid (by rw [← HY.out]; exact yes_f (fun h => h.2.2.2 k hlt j hjk (by rw [HEJ.out, HE.out]; exact ⟨hr, hq⟩)))
                              have HZ := hid (HB1.out.trans ((HB5.out.trans (HBI.out.mono HB5.out.size)).mono HB1.out.size))
                              clear HNO HDI HCC
                              go_wp2_with fail
                              go_quiet (fail)
                              go_wp2_with fail
                              go_ret
                              exact ⟨ret_b HF.out.symm, below_drewS HZ.out _⟩
                            · have e2 : (qj == q) = false := by simpa using hq
                              have EQ : ∀ w : World, (binOp .eql 87 (.agg #[.int .i64 rj, .int .i64 qj]) (.agg #[.int .i64 r, .int .i64 q])).run Tryz.prog w = .ok (.bool false) w := fun w => by rw [EQ w, e1, e2]; rfl
                              have HD : Hid (∀ t, t < j + 1 → Dif (gL l t) (gL l k)) := hid (fun t ht => by
                                by_cases e : t = j
                                · rw [e, HEJ.out, HE.out]; exact fun h => hq h.2
                                · exact HDI.out t (by omega))
                              clear HNO HDI HCC
                              go_wp2_with fail
                              go_quiet (fail)
                              have HBN := hid (below_drewS HBI.out nq)
                              go_wp2_with fail
                              go_roundw
                              case rel => exact ⟨j + 1, hjk, by go_num, HBN, HD⟩
                              case measure => simp [intOf]; omega
                          · have e1 : (rj == r) = false := by simpa using hr
                            have EQ : ∀ w : World, (binOp .eql 87 (.agg #[.int .i64 rj, .int .i64 qj]) (.agg #[.int .i64 r, .int .i64 q])).run Tryz.prog w = .ok (.bool false) w := fun w => by rw [EQ w, e1]; rfl
                            have HD : Hid (∀ t, t < j + 1 → Dif (gL l t) (gL l k)) := hid (fun t ht => by
                              by_cases e : t = j
                              · rw [e, HEJ.out, HE.out]; exact fun h => hr h.1
                              · exact HDI.out t (by omega))
                            clear HNO HDI HCC
                            go_wp2_with fail
                            go_quiet (fail)
                            have HBN := hid (below_drewS HBI.out nq)
                            go_wp2_with fail
                            go_roundw
                            case rel => exact ⟨j + 1, hjk, by go_num, HBN, HD⟩
                            case measure => simp [intOf]; omega
                        · obtain rfl : j = k := by omega
                          have HN : Hid (LvOk R F T n l (j + 1) ∧ Dis l (j + 1)) := hid ⟨HI.out.1.step (by rw [HE.out]; exact HOK.out) (by rw [HE.out]; exact HHAS.out) (fun h => by rw [HE.out]; exact HORD.out h), HI.out.2.step HDI.out⟩
                          have HZ := hid (HB5.out.trans (HBI.out.mono HB5.out.size))
                          clear HNO HDI HCC t0 y2 y3 g0 g2 g3
                          go_wp2_with fail
                          go_roundw
                          case rel => exact ⟨j + 1, hlt, by go_num, HZ, HN⟩
                          case measure => simp [intOf]; omega
                    · obtain ⟨j, hj⟩ : ∃ j, k = j + 1 := ⟨k - 1, by omega⟩
                      obtain ⟨pa', pc', ⟨c0, cp', cq'⟩, s', c1, c2, c3, c4⟩ := HCC.out j (by omega)
                      have q' := fun (o : Nat) => HB4.out.cell (p := ⟨b, o, none⟩) hb
                      have j0 := (q' _).trans c0
                      have j1 := (q' _).trans c1
                      have j2 := (q' _).trans c2
                      have j3 := (q' _).trans c3
                      have j4 := (q' _).trans c4
                      have HSJ := hid (s'.below HB4.out)
                      have hpj := hp j
                      obtain ⟨y', hy'⟩ : ∃ y', gL l j = y' := ⟨_, rfl⟩
                      rw [hy'] at j0 j1 j2 j3 j4 HSJ hpj cp'
                      have HEJ := hid hy'
                      obtain ⟨p', fl', r', q', v'⟩ := y'
                      dsimp only at j0 j1 j2 j3 j4 HSJ hpj cp'
                      have zb : b < w4.heap.size := by have := HB4.out.size; omega
                      have d2 : decide ((0 : Int) < (k : Int)) = true := by simp; omega
                      have d3 : decide (0 < k) = true := by simp; omega
                      have hsub : (k : Int) - 1 = (j : Int) := by omega
                      have hwr : IntKind.i64.wrap (j : Int) = (j : Int) := by rw [IntKind.wrap_i64]; omega
                      have hwr2 : IntKind.i64.wrap ((k : Int) - 1) = (j : Int) := by rw [hsub]; exact hwr
                      have q1 : (0 : Int) ≤ (j : Int) := Int.natCast_nonneg _
                      have q2 : (j : Int) < (l.length : Int) := by omega
                      have HKJ := hid hj
                      obtain ⟨Bf, hBf⟩ : ∃ Bf, yes (cmpL ⟨p', fl', r', q', v'⟩ ⟨p, true, r, q, v⟩ < 0) = Bf := ⟨_, rfl⟩
                      have HBf := hid hBf
                      have HLB : Hid (∀ W, Below w4.heap.size w4 W → Calls Tryz.prog 44 #[.agg #[.slice pa' p'.length pc', .bool fl', .int .i64 r', .int .i64 q', .string v'], .agg #[.slice pa p.length pc, .bool true, .int .i64 r, .int .i64 q, .string v]] W fun e w' => e = .returned (.bool Bf) ∧ Below W.heap.size W w') := hid (fun W hB => by rw [← hBf]; exact l3Before pa' pa pc' pc p' p fl' true r' q' r q v' v W hpj hpk cp' cp cq' cq (HSJ.out.below hB) (HSK.out.below hB))
                      clear hBf hj hk0 c0 c1 c2 c3 c4 s' hy'
                      go_wp2_with fail
                      have HCS : Hid (∀ w', Below w4.heap.size w4 w' → (Below w4.heap.size w4 w' ∧ w'.cell? ⟨w.heap.size, 0, none⟩ = some (.slice (some ⟨b, off, none⟩) l.length c) ∧ w'.cell? ⟨wr.heap.size, 0, none⟩ = some (.slice pa p.length pc) ∧ w'.cell? ⟨wr.heap.size, 1, none⟩ = some (.bool true) ∧ w'.cell? ⟨wr.heap.size, 2, none⟩ = some (.int .i64 r) ∧ w'.cell? ⟨wr.heap.size, 3, none⟩ = some (.int .i64 q) ∧ w'.cell? ⟨wr.heap.size, 4, none⟩ = some (.string v) ∧ w'.cell? ⟨b, off + j * 5, none⟩ = some (.slice pa' p'.length pc') ∧ w'.cell? ⟨b, off + j * 5 + 1, none⟩ = some (.bool fl') ∧ w'.cell? ⟨b, off + j * 5 + 2, none⟩ = some (.int .i64 r') ∧ w'.cell? ⟨b, off + j * 5 + 3, none⟩ = some (.int .i64 q') ∧ w'.cell? ⟨b, off + j * 5 + 4, none⟩ = some (.string v'))) := hid (fun w' hB => ⟨hB, (hB.cell (p := ⟨w.heap.size, 0, none⟩) zt).trans t0, (hB.cell (p := ⟨wr.heap.size, 0, none⟩) zy).trans y0, (hB.cell (p := ⟨wr.heap.size, 1, none⟩) zy).trans y1, (hB.cell (p := ⟨wr.heap.size, 2, none⟩) zy).trans y2, (hB.cell (p := ⟨wr.heap.size, 3, none⟩) zy).trans y3, (hB.cell (p := ⟨wr.heap.size, 4, none⟩) zy).trans y4, (hB.cell (p := ⟨b, off + j * 5, none⟩) zb).trans j0, (hB.cell (p := ⟨b, off + j * 5 + 1, none⟩) zb).trans j1, (hB.cell (p := ⟨b, off + j * 5 + 2, none⟩) zb).trans j2, (hB.cell (p := ⟨b, off + j * 5 + 3, none⟩) zb).trans j3, (hB.cell (p := ⟨b, off + j * 5 + 4, none⟩) zb).trans j4⟩)
                      refine wp_region_held_drew (S := fun w' => Below w4.heap.size w4 w' ∧ w'.cell? ⟨w.heap.size, 0, none⟩ = some (.slice (some ⟨b, off, none⟩) l.length c) ∧ w'.cell? ⟨wr.heap.size, 0, none⟩ = some (.slice pa p.length pc) ∧ w'.cell? ⟨wr.heap.size, 1, none⟩ = some (.bool true) ∧ w'.cell? ⟨wr.heap.size, 2, none⟩ = some (.int .i64 r) ∧ w'.cell? ⟨wr.heap.size, 3, none⟩ = some (.int .i64 q) ∧ w'.cell? ⟨wr.heap.size, 4, none⟩ = some (.string v) ∧ w'.cell? ⟨b, off + j * 5, none⟩ = some (.slice pa' p'.length pc') ∧ w'.cell? ⟨b, off + j * 5 + 1, none⟩ = some (.bool fl') ∧ w'.cell? ⟨b, off + j * 5 + 2, none⟩ = some (.int .i64 r') ∧ w'.cell? ⟨b, off + j * 5 + 3, none⟩ = some (.int .i64 q') ∧ w'.cell? ⟨b, off + j * 5 + 4, none⟩ = some (.string v')) (by kernel_rfl) (HCS.out _ (Below.refl _ _).drew) (fun hHeld => ?_)
                      refine tk 0 55 ?_ (by kernel_rfl) (fun _ _ _ h => h) ?_ hHeld (tk 1 56 ?_ (by kernel_rfl) (fun _ _ _ h => h) ?_ hHeld (tk 2 57 ?_ (by kernel_rfl) (fun _ _ _ h => h) ?_ hHeld (tk 3 58 ?_ (by kernel_rfl) (fun _ _ _ h => h) ?_ hHeld ?_)))
                      iterate 4 (rotate_left; focus (intro o ho; simp only [gZa, gZb, gZc, gZd] at ho; subst ho; refine Or.inl ⟨by rfl, ?_⟩; intro w hSw; (try dsimp only at hSw); (try simp only [Act.put, sZa, sZb, sZc]); go_simp; try with_reducible rfl))
                      try simp only [Act.put, sZa, sZb, sZc]
                      refine tk 4 59 ?_ (by kernel_rfl) (fun _ _ _ h => h) ?_ hHeld (tk 5 60 ?_ (by kernel_rfl) (fun _ _ _ h => h) ?_ hHeld (tk 6 61 ?_ (by kernel_rfl) (fun _ _ _ h => h) ?_ hHeld (tk 7 62 ?_ (by kernel_rfl) (fun _ _ _ h => h) ?_ hHeld ?_)))
                      iterate 4 (rotate_left; focus (intro o ho; simp only [gZa, gZb, gZc, gZd] at ho; subst ho; refine Or.inl ⟨by rfl, ?_⟩; intro w hSw; (try dsimp only at hSw); (try simp only [Act.put, sZa, sZb, sZc]); go_simp; try with_reducible rfl))
                      try simp only [Act.put, sZa, sZb, sZc]
                      refine tk 8 63 ?_ (by kernel_rfl) (fun _ _ _ h => h) ?_ hHeld (tk 9 64 ?_ (by kernel_rfl) (fun _ _ _ h => h) ?_ hHeld ?_)
                      iterate 2 (rotate_left; focus (intro o ho; simp only [gZa, gZb, gZc, gZd] at ho; subst ho; refine Or.inl ⟨by rfl, ?_⟩; intro w hSw; (try dsimp only at hSw); (try simp only [Act.put, sZa, sZb, sZc]); go_simp; try with_reducible rfl))
                      try simp only [Act.put, sZa, sZb, sZc]
                      refine call1 (i := 10) (d := some 65) (by kernel_rfl) (by kernel_rfl) ?_
                      intro o ho hod K hK; simp only [gZa, gZb, gZc, gZd] at ho; subst ho
                      go_simp
                      refine (HLB.out _ hHeld.1).mono ?_
                      rintro e w5 ⟨rfl, b5⟩
                      have hB5 := hHeld.1.trans (b5.mono hHeld.1.size)
                      refine hK.out _ _ (HCS.out _ hB5) (fun hHeld => ?_)
                      clear hK K
                      try simp only [Act.put, sZa, sZb, sZc]
                      refine tk 11 66 ?_ (by kernel_rfl) (fun _ _ _ h => h) ?_ hHeld (tk 12 67 ?_ (by kernel_rfl) (fun _ _ _ h => h) ?_ hHeld ?_)
                      iterate 2 (rotate_left; focus (intro o ho; simp only [gZa, gZb, gZc, gZd] at ho; subst ho; refine Or.inl ⟨by rfl, ?_⟩; intro w hSw; (try dsimp only at hSw); (try simp only [Act.put, sZa, sZb, sZc]); go_simp; try with_reducible rfl))
                      try simp only [Act.put, sZa, sZb, sZc]
                      refine wpAnyH_done (by kernel_rfl) ?_ _
                      have HB5 := hid (HB4.out.trans (hB5.mono HB4.out.size))
                      have t0 := (hB5.cell (p := ⟨w.heap.size, 0, none⟩) zt).trans t0
                      have y2 := (hB5.cell (p := ⟨wr.heap.size, 2, none⟩) zy).trans y2
                      have y3 := (hB5.cell (p := ⟨wr.heap.size, 3, none⟩) zy).trans y3
                      have zt : w.heap.size < w5.heap.size := Nat.lt_of_lt_of_le zt hB5.size
                      have zy : wr.heap.size < w5.heap.size := Nat.lt_of_lt_of_le zy hB5.size
                      clear hHeld hB5 b5 HCS HLB j0 j1 j2 j3 j4 y0 y1 y4 hsub hwr hwr2 d2 d3 HSJ HSK HB4 HBF4 q1 q2 zb
                      cases Bf with
                      | false =>
                        have HF := hid (HNO.out (fun h => by
                          have e := h.2.2 (by have := HKJ.out; omega)
                          rw [show k - 1 = j by have := HKJ.out; omega, HEJ.out] at e
                          have := yes_t e; rw [HBf.out] at this; cases this))
                        have HZ := hid (HB1.out.trans (HB5.out.mono HB1.out.size))
                        clear HNO HCC
                        go_wp2_with fail
                        go_ret
                        exact ⟨ret_b HF.out.symm, HZ.out⟩
                      | true =>
                        have HORD : Hid (0 < k → cmpL (gL l (k - 1)) ⟨p, true, r, q, v⟩ < 0) := hid (fun _ => by
                          rw [show k - 1 = j by have := HKJ.out; omega, HEJ.out]; exact yes_iff.1 HBf.out)
                        have HY2 : Hid (∀ wi, Below w5.heap.size w5 wi → wi.cell? ⟨wr.heap.size, 2, none⟩ = some (.int .i64 r)) := hid (fun wi h => (h.cell (p := ⟨wr.heap.size, 2, none⟩) zy).trans y2)
                        have HY3 : Hid (∀ wi, Below w5.heap.size w5 wi → wi.cell? ⟨wr.heap.size, 3, none⟩ = some (.int .i64 q)) := hid (fun wi h => (h.cell (p := ⟨wr.heap.size, 3, none⟩) zy).trans y3)
                        go_wp2_with fail
                        go_loopw [5] (fun i wi => ∃ j : Nat, j ≤ k ∧ i = .int .i64 j ∧ Hid (Below w5.heap.size w5 wi) ∧ Hid (∀ t, t < j → Dif (gL l t) (gL l k))) (fun i _ => k - (intOf i).toNat)
                        case atStart => exact ⟨0, Nat.zero_le _, rfl, hid (Below.refl _ _), hid (fun t ht => by omega)⟩
                        case round =>
                          obtain ⟨j, hj, rfl, HBI, HDI⟩ := hrel
                          have g0 := (HBI.out.cell (p := ⟨w.heap.size, 0, none⟩) zt).trans t0
                          have g2 := HY2.out _ HBI.out
                          have g3 := HY3.out _ HBI.out
                          by_cases hjk : j < k
                          · obtain ⟨ja, jc, _, _, _, c2, c3, _⟩ := HCC.out j (by omega)
                            have j2 := (((HB5.out.trans (HBI.out.mono HB5.out.size)).cell (p := ⟨b, off + j * 5 + 2, none⟩) hb)).trans c2
                            have j3 := (((HB5.out.trans (HBI.out.mono HB5.out.size)).cell (p := ⟨b, off + j * 5 + 3, none⟩) hb)).trans c3
                            obtain ⟨yj, hyj⟩ : ∃ yj, gL l j = yj := ⟨_, rfl⟩
                            rw [hyj] at j2 j3
                            have HEJ := hid hyj
                            obtain ⟨pj, fj, rj, qj, vj⟩ := yj
                            dsimp only at j2 j3
                            have q1 : (0 : Int) ≤ (j : Int) := Int.natCast_nonneg _
                            have q2 : (j : Int) < (l.length : Int) := by omega
                            have q3 : (j : Int) < (k : Int) := by omega
                            have hG := dotGuard
                            have EQ : ∀ w : World, (binOp .eql 87 (.agg #[.int .i64 rj, .int .i64 qj]) (.agg #[.int .i64 r, .int .i64 q])).run Tryz.prog w = .ok (.bool (rj == r && qj == q)) w := fun w => eqlDot rj qj r q w
                            clear hyj c2 c3 t0 y2 y3
                            by_cases hr : rj = r
                            · have e1 : (rj == r) = true := by simpa using hr
                              by_cases hq : qj = q
                              · have e2 : (qj == q) = true := by simpa using hq
                                have EQ : ∀ w : World, (binOp .eql 87 (.agg #[.int .i64 rj, .int .i64 qj]) (.agg #[.int .i64 r, .int .i64 q])).run Tryz.prog w = .ok (.bool true) w := fun w => by rw [EQ w, e1, e2]; rfl
                                have HF : Hid (Y = false) := hid (by rw [← HY.out]; exact yes_f (fun h => h.2.2.2 k hlt j hjk (by rw [HEJ.out, HE.out]; exact ⟨hr, hq⟩)))
                                have HZ := hid (HB1.out.trans ((HB5.out.trans (HBI.out.mono HB5.out.size)).mono HB1.out.size))
                                clear HNO HDI HCC
                                go_wp2_with fail
                                go_quiet (fail)
                                go_wp2_with fail
                                go_ret
                                exact ⟨ret_b HF.out.symm, below_drewS HZ.out _⟩
                              · have e2 : (qj == q) = false := by simpa using hq
                                have EQ : ∀ w : World, (binOp .eql 87 (.agg #[.int .i64 rj, .int .i64 qj]) (.agg #[.int .i64 r, .int .i64 q])).run Tryz.prog w = .ok (.bool false) w := fun w => by rw [EQ w, e1, e2]; rfl
                                have HD : Hid (∀ t, t < j + 1 → Dif (gL l t) (gL l k)) := hid (fun t ht => by
                                  by_cases e : t = j
                                  · rw [e, HEJ.out, HE.out]; exact fun h => hq h.2
                                  · exact HDI.out t (by omega))
                                clear HNO HDI HCC
                                go_wp2_with fail
                                go_quiet (fail)
                                have HBN := hid (below_drewS HBI.out nq)
                                go_wp2_with fail
                                go_roundw
                                case rel => exact ⟨j + 1, hjk, by go_num, HBN, HD⟩
                                case measure => simp [intOf]; omega
                            · have e1 : (rj == r) = false := by simpa using hr
                              have EQ : ∀ w : World, (binOp .eql 87 (.agg #[.int .i64 rj, .int .i64 qj]) (.agg #[.int .i64 r, .int .i64 q])).run Tryz.prog w = .ok (.bool false) w := fun w => by rw [EQ w, e1]; rfl
                              have HD : Hid (∀ t, t < j + 1 → Dif (gL l t) (gL l k)) := hid (fun t ht => by
                                by_cases e : t = j
                                · rw [e, HEJ.out, HE.out]; exact fun h => hr h.1
                                · exact HDI.out t (by omega))
                              clear HNO HDI HCC
                              go_wp2_with fail
                              go_quiet (fail)
                              have HBN := hid (below_drewS HBI.out nq)
                              go_wp2_with fail
                              go_roundw
                              case rel => exact ⟨j + 1, hjk, by go_num, HBN, HD⟩
                              case measure => simp [intOf]; omega
                          · obtain rfl : j = k := by omega
                            have HN : Hid (LvOk R F T n l (j + 1) ∧ Dis l (j + 1)) := hid ⟨HI.out.1.step (by rw [HE.out]; exact HOK.out) (by rw [HE.out]; exact HHAS.out) (fun h => by rw [HE.out]; exact HORD.out h), HI.out.2.step HDI.out⟩
                            have HZ := hid (HB5.out.trans (HBI.out.mono HB5.out.size))
                            clear HNO HDI HCC t0 y2 y3 g0 g2 g3
                            go_wp2_with fail
                            go_roundw
                            case rel => exact ⟨j + 1, hlt, by go_num, HZ, HN⟩
                            case measure => simp [intOf]; omega
                | false =>
                  go_wp2_with fail
                  refine HA.out.mono ?_
                  rintro e w4 ⟨rfl, b4⟩
                  have zt : w.heap.size < w4.heap.size := by have := b4.size; omega
                  have zy : wr.heap.size < w4.heap.size := by have := b4.size; omega
                  have B4 := HB5.out.below b4 z2
                  have t0 := (b4.cell (p := ⟨w.heap.size, 0, none⟩) (show w.heap.size < w3.heap.size by omega)).trans t0
                  have y0 := B4.c0
                  have y1 := B4.c1
                  have y2 := B4.c2
                  have y3 := B4.c3
                  have y4 := B4.c4
                  have HB4 := hid (HB2.out.trans (b4.mono HB2.out.size))
                  have HSK := hid (HSP.out.below b4)
                  have HBF4 := hid (HB1.out.trans (HB4.out.mono HB1.out.size))
                  clear B4 b4 t1 HB5 HSP HBF
                  obtain ⟨A, hA⟩ : ∃ A, hasK R F T r q q n = A := ⟨_, rfl⟩
                  have HHAS := hid hA
                  rw [hA]
                  clear hA
                  cases A with
                  | false =>
                    have HF := hid (HNO.out (fun h => by have := h.2.1; rw [HHAS.out] at this; cases this))
                    clear HNO HCC
                    go_wp2_with fail
                    go_ret
                    exact ⟨ret_b HF.out.symm, HBF4.out⟩
                  | true =>
                    by_cases hk0 : k = 0
                    · have d2 : decide ((0 : Int) < (k : Int)) = false := by simp; omega
                      have d3 : decide (0 < k) = false := by simp; omega
                      have HORD : Hid (0 < k → cmpL (gL l (k - 1)) ⟨p, false, r, q, v⟩ < 0) := hid (fun h => by omega)
                      clear hk0
                      go_wp2_with fail
                      go_quiet (fail)
                      obtain ⟨w5, hw5⟩ : ∃ w5, w4.drewN nq = w5 := ⟨_, rfl⟩
                      have HB5 : Hid (Below w1.heap.size w1 w5) := hid (by rw [← hw5]; exact below_drewS HB4.out _)
                      have t0 : w5.cell? ⟨w.heap.size, 0, none⟩ = some (.slice (some ⟨b, off, none⟩) l.length c) := by rw [← hw5]; exact t0
                      have y2 : w5.cell? ⟨wr.heap.size, 2, none⟩ = some (.int .i64 r) := by rw [← hw5]; exact y2
                      have y3 : w5.cell? ⟨wr.heap.size, 3, none⟩ = some (.int .i64 q) := by rw [← hw5]; exact y3
                      have zt : w.heap.size < w5.heap.size := by rw [← hw5]; exact zt
                      have zy : wr.heap.size < w5.heap.size := by rw [← hw5]; exact zy
                      rw [hw5]
                      clear hw5 d2 d3 HB4 HBF4 HSK y0 y1 y4
                      have HY2 : Hid (∀ wi, Below w5.heap.size w5 wi → wi.cell? ⟨wr.heap.size, 2, none⟩ = some (.int .i64 r)) := hid (fun wi h => (h.cell (p := ⟨wr.heap.size, 2, none⟩) zy).trans y2)
                      have HY3 : Hid (∀ wi, Below w5.heap.size w5 wi → wi.cell? ⟨wr.heap.size, 3, none⟩ = some (.int .i64 q)) := hid (fun wi h => (h.cell (p := ⟨wr.heap.size, 3, none⟩) zy).trans y3)
                      go_wp2_with fail
                      go_loopw [5] (fun i wi => ∃ j : Nat, j ≤ k ∧ i = .int .i64 j ∧ Hid (Below w5.heap.size w5 wi) ∧ Hid (∀ t, t < j → Dif (gL l t) (gL l k))) (fun i _ => k - (intOf i).toNat)
                      case atStart => exact ⟨0, Nat.zero_le _, rfl, hid (Below.refl _ _), hid (fun t ht => by omega)⟩
                      case round =>
                        obtain ⟨j, hj, rfl, HBI, HDI⟩ := hrel
                        have g0 := (HBI.out.cell (p := ⟨w.heap.size, 0, none⟩) zt).trans t0
                        have g2 := HY2.out _ HBI.out
                        have g3 := HY3.out _ HBI.out
                        by_cases hjk : j < k
                        · obtain ⟨ja, jc, _, _, _, c2, c3, _⟩ := HCC.out j (by omega)
                          have j2 := (((HB5.out.trans (HBI.out.mono HB5.out.size)).cell (p := ⟨b, off + j * 5 + 2, none⟩) hb)).trans c2
                          have j3 := (((HB5.out.trans (HBI.out.mono HB5.out.size)).cell (p := ⟨b, off + j * 5 + 3, none⟩) hb)).trans c3
                          obtain ⟨yj, hyj⟩ : ∃ yj, gL l j = yj := ⟨_, rfl⟩
                          rw [hyj] at j2 j3
                          have HEJ := hid hyj
                          obtain ⟨pj, fj, rj, qj, vj⟩ := yj
                          dsimp only at j2 j3
                          have q1 : (0 : Int) ≤ (j : Int) := Int.natCast_nonneg _
                          have q2 : (j : Int) < (l.length : Int) := by omega
                          have q3 : (j : Int) < (k : Int) := by omega
                          have hG := dotGuard
                          have EQ : ∀ w : World, (binOp .eql 87 (.agg #[.int .i64 rj, .int .i64 qj]) (.agg #[.int .i64 r, .int .i64 q])).run Tryz.prog w = .ok (.bool (rj == r && qj == q)) w := fun w => eqlDot rj qj r q w
                          clear hyj c2 c3 t0 y2 y3
                          by_cases hr : rj = r
                          · have e1 : (rj == r) = true := by simpa using hr
                            by_cases hq : qj = q
                            · have e2 : (qj == q) = true := by simpa using hq
                              have EQ : ∀ w : World, (binOp .eql 87 (.agg #[.int .i64 rj, .int .i64 qj]) (.agg #[.int .i64 r, .int .i64 q])).run Tryz.prog w = .ok (.bool true) w := fun w => by rw [EQ w, e1, e2]; rfl
                              have HF : Hid (Y = false) := hid (by rw [← HY.out]; exact yes_f (fun h => h.2.2.2 k hlt j hjk (by rw [HEJ.out, HE.out]; exact ⟨hr, hq⟩)))
                              have HZ := hid (HB1.out.trans ((HB5.out.trans (HBI.out.mono HB5.out.size)).mono HB1.out.size))
                              clear HNO HDI HCC
                              go_wp2_with fail
                              go_quiet (fail)
                              go_wp2_with fail
                              go_ret
                              exact ⟨ret_b HF.out.symm, below_drewS HZ.out _⟩
                            · have e2 : (qj == q) = false := by simpa using hq
                              have EQ : ∀ w : World, (binOp .eql 87 (.agg #[.int .i64 rj, .int .i64 qj]) (.agg #[.int .i64 r, .int .i64 q])).run Tryz.prog w = .ok (.bool false) w := fun w => by rw [EQ w, e1, e2]; rfl
                              have HD : Hid (∀ t, t < j + 1 → Dif (gL l t) (gL l k)) := hid (fun t ht => by
                                by_cases e : t = j
                                · rw [e, HEJ.out, HE.out]; exact fun h => hq h.2
                                · exact HDI.out t (by omega))
                              clear HNO HDI HCC
                              go_wp2_with fail
                              go_quiet (fail)
                              have HBN := hid (below_drewS HBI.out nq)
                              go_wp2_with fail
                              go_roundw
                              case rel => exact ⟨j + 1, hjk, by go_num, HBN, HD⟩
                              case measure => simp [intOf]; omega
                          · have e1 : (rj == r) = false := by simpa using hr
                            have EQ : ∀ w : World, (binOp .eql 87 (.agg #[.int .i64 rj, .int .i64 qj]) (.agg #[.int .i64 r, .int .i64 q])).run Tryz.prog w = .ok (.bool false) w := fun w => by rw [EQ w, e1]; rfl
                            have HD : Hid (∀ t, t < j + 1 → Dif (gL l t) (gL l k)) := hid (fun t ht => by
                              by_cases e : t = j
                              · rw [e, HEJ.out, HE.out]; exact fun h => hr h.1
                              · exact HDI.out t (by omega))
                            clear HNO HDI HCC
                            go_wp2_with fail
                            go_quiet (fail)
                            have HBN := hid (below_drewS HBI.out nq)
                            go_wp2_with fail
                            go_roundw
                            case rel => exact ⟨j + 1, hjk, by go_num, HBN, HD⟩
                            case measure => simp [intOf]; omega
                        · obtain rfl : j = k := by omega
                          have HN : Hid (LvOk R F T n l (j + 1) ∧ Dis l (j + 1)) := hid ⟨HI.out.1.step (by rw [HE.out]; exact HOK.out) (by rw [HE.out]; exact HHAS.out) (fun h => by rw [HE.out]; exact HORD.out h), HI.out.2.step HDI.out⟩
                          have HZ := hid (HB5.out.trans (HBI.out.mono HB5.out.size))
                          clear HNO HDI HCC t0 y2 y3 g0 g2 g3
                          go_wp2_with fail
                          go_roundw
                          case rel => exact ⟨j + 1, hlt, by go_num, HZ, HN⟩
                          case measure => simp [intOf]; omega
                    · obtain ⟨j, hj⟩ : ∃ j, k = j + 1 := ⟨k - 1, by omega⟩
                      obtain ⟨pa', pc', ⟨c0, cp', cq'⟩, s', c1, c2, c3, c4⟩ := HCC.out j (by omega)
                      have q' := fun (o : Nat) => HB4.out.cell (p := ⟨b, o, none⟩) hb
                      have j0 := (q' _).trans c0
                      have j1 := (q' _).trans c1
                      have j2 := (q' _).trans c2
                      have j3 := (q' _).trans c3
                      have j4 := (q' _).trans c4
                      have HSJ := hid (s'.below HB4.out)
                      have hpj := hp j
                      obtain ⟨y', hy'⟩ : ∃ y', gL l j = y' := ⟨_, rfl⟩
                      rw [hy'] at j0 j1 j2 j3 j4 HSJ hpj cp'
                      have HEJ := hid hy'
                      obtain ⟨p', fl', r', q', v'⟩ := y'
                      dsimp only at j0 j1 j2 j3 j4 HSJ hpj cp'
                      have zb : b < w4.heap.size := by have := HB4.out.size; omega
                      have d2 : decide ((0 : Int) < (k : Int)) = true := by simp; omega
                      have d3 : decide (0 < k) = true := by simp; omega
                      have hsub : (k : Int) - 1 = (j : Int) := by omega
                      have hwr : IntKind.i64.wrap (j : Int) = (j : Int) := by rw [IntKind.wrap_i64]; omega
                      have hwr2 : IntKind.i64.wrap ((k : Int) - 1) = (j : Int) := by rw [hsub]; exact hwr
                      have q1 : (0 : Int) ≤ (j : Int) := Int.natCast_nonneg _
                      have q2 : (j : Int) < (l.length : Int) := by omega
                      have HKJ := hid hj
                      obtain ⟨Bf, hBf⟩ : ∃ Bf, yes (cmpL ⟨p', fl', r', q', v'⟩ ⟨p, false, r, q, v⟩ < 0) = Bf := ⟨_, rfl⟩
                      have HBf := hid hBf
                      have HLB : Hid (∀ W, Below w4.heap.size w4 W → Calls Tryz.prog 44 #[.agg #[.slice pa' p'.length pc', .bool fl', .int .i64 r', .int .i64 q', .string v'], .agg #[.slice pa p.length pc, .bool false, .int .i64 r, .int .i64 q, .string v]] W fun e w' => e = .returned (.bool Bf) ∧ Below W.heap.size W w') := hid (fun W hB => by rw [← hBf]; exact l3Before pa' pa pc' pc p' p fl' false r' q' r q v' v W hpj hpk cp' cp cq' cq (HSJ.out.below hB) (HSK.out.below hB))
                      clear hBf hj hk0 c0 c1 c2 c3 c4 s' hy'
                      go_wp2_with fail
                      have HCS : Hid (∀ w', Below w4.heap.size w4 w' → (Below w4.heap.size w4 w' ∧ w'.cell? ⟨w.heap.size, 0, none⟩ = some (.slice (some ⟨b, off, none⟩) l.length c) ∧ w'.cell? ⟨wr.heap.size, 0, none⟩ = some (.slice pa p.length pc) ∧ w'.cell? ⟨wr.heap.size, 1, none⟩ = some (.bool false) ∧ w'.cell? ⟨wr.heap.size, 2, none⟩ = some (.int .i64 r) ∧ w'.cell? ⟨wr.heap.size, 3, none⟩ = some (.int .i64 q) ∧ w'.cell? ⟨wr.heap.size, 4, none⟩ = some (.string v) ∧ w'.cell? ⟨b, off + j * 5, none⟩ = some (.slice pa' p'.length pc') ∧ w'.cell? ⟨b, off + j * 5 + 1, none⟩ = some (.bool fl') ∧ w'.cell? ⟨b, off + j * 5 + 2, none⟩ = some (.int .i64 r') ∧ w'.cell? ⟨b, off + j * 5 + 3, none⟩ = some (.int .i64 q') ∧ w'.cell? ⟨b, off + j * 5 + 4, none⟩ = some (.string v'))) := hid (fun w' hB => ⟨hB, (hB.cell (p := ⟨w.heap.size, 0, none⟩) zt).trans t0, (hB.cell (p := ⟨wr.heap.size, 0, none⟩) zy).trans y0, (hB.cell (p := ⟨wr.heap.size, 1, none⟩) zy).trans y1, (hB.cell (p := ⟨wr.heap.size, 2, none⟩) zy).trans y2, (hB.cell (p := ⟨wr.heap.size, 3, none⟩) zy).trans y3, (hB.cell (p := ⟨wr.heap.size, 4, none⟩) zy).trans y4, (hB.cell (p := ⟨b, off + j * 5, none⟩) zb).trans j0, (hB.cell (p := ⟨b, off + j * 5 + 1, none⟩) zb).trans j1, (hB.cell (p := ⟨b, off + j * 5 + 2, none⟩) zb).trans j2, (hB.cell (p := ⟨b, off + j * 5 + 3, none⟩) zb).trans j3, (hB.cell (p := ⟨b, off + j * 5 + 4, none⟩) zb).trans j4⟩)
                      refine wp_region_held_drew (S := fun w' => Below w4.heap.size w4 w' ∧ w'.cell? ⟨w.heap.size, 0, none⟩ = some (.slice (some ⟨b, off, none⟩) l.length c) ∧ w'.cell? ⟨wr.heap.size, 0, none⟩ = some (.slice pa p.length pc) ∧ w'.cell? ⟨wr.heap.size, 1, none⟩ = some (.bool false) ∧ w'.cell? ⟨wr.heap.size, 2, none⟩ = some (.int .i64 r) ∧ w'.cell? ⟨wr.heap.size, 3, none⟩ = some (.int .i64 q) ∧ w'.cell? ⟨wr.heap.size, 4, none⟩ = some (.string v) ∧ w'.cell? ⟨b, off + j * 5, none⟩ = some (.slice pa' p'.length pc') ∧ w'.cell? ⟨b, off + j * 5 + 1, none⟩ = some (.bool fl') ∧ w'.cell? ⟨b, off + j * 5 + 2, none⟩ = some (.int .i64 r') ∧ w'.cell? ⟨b, off + j * 5 + 3, none⟩ = some (.int .i64 q') ∧ w'.cell? ⟨b, off + j * 5 + 4, none⟩ = some (.string v')) (by kernel_rfl) (HCS.out _ (Below.refl _ _).drew) (fun hHeld => ?_)
                      refine tk 0 55 ?_ (by kernel_rfl) (fun _ _ _ h => h) ?_ hHeld (tk 1 56 ?_ (by kernel_rfl) (fun _ _ _ h => h) ?_ hHeld (tk 2 57 ?_ (by kernel_rfl) (fun _ _ _ h => h) ?_ hHeld (tk 3 58 ?_ (by kernel_rfl) (fun _ _ _ h => h) ?_ hHeld ?_)))
                      iterate 4 (rotate_left; focus (intro o ho; simp only [gZa, gZb, gZc, gZd] at ho; subst ho; refine Or.inl ⟨by rfl, ?_⟩; intro w hSw; (try dsimp only at hSw); (try simp only [Act.put, sZa, sZb, sZc]); go_simp; try with_reducible rfl))
                      try simp only [Act.put, sZa, sZb, sZc]
                      refine tk 4 59 ?_ (by kernel_rfl) (fun _ _ _ h => h) ?_ hHeld (tk 5 60 ?_ (by kernel_rfl) (fun _ _ _ h => h) ?_ hHeld (tk 6 61 ?_ (by kernel_rfl) (fun _ _ _ h => h) ?_ hHeld (tk 7 62 ?_ (by kernel_rfl) (fun _ _ _ h => h) ?_ hHeld ?_)))
                      iterate 4 (rotate_left; focus (intro o ho; simp only [gZa, gZb, gZc, gZd] at ho; subst ho; refine Or.inl ⟨by rfl, ?_⟩; intro w hSw; (try dsimp only at hSw); (try simp only [Act.put, sZa, sZb, sZc]); go_simp; try with_reducible rfl))
                      try simp only [Act.put, sZa, sZb, sZc]
                      refine tk 8 63 ?_ (by kernel_rfl) (fun _ _ _ h => h) ?_ hHeld (tk 9 64 ?_ (by kernel_rfl) (fun _ _ _ h => h) ?_ hHeld ?_)
                      iterate 2 (rotate_left; focus (intro o ho; simp only [gZa, gZb, gZc, gZd] at ho; subst ho; refine Or.inl ⟨by rfl, ?_⟩; intro w hSw; (try dsimp only at hSw); (try simp only [Act.put, sZa, sZb, sZc]); go_simp; try with_reducible rfl))
                      try simp only [Act.put, sZa, sZb, sZc]
                      refine call1 (i := 10) (d := some 65) (by kernel_rfl) (by kernel_rfl) ?_
                      intro o ho hod K hK; simp only [gZa, gZb, gZc, gZd] at ho; subst ho
                      go_simp
                      refine (HLB.out _ hHeld.1).mono ?_
                      rintro e w5 ⟨rfl, b5⟩
                      have hB5 := hHeld.1.trans (b5.mono hHeld.1.size)
                      refine hK.out _ _ (HCS.out _ hB5) (fun hHeld => ?_)
                      clear hK K
                      try simp only [Act.put, sZa, sZb, sZc]
                      refine tk 11 66 ?_ (by kernel_rfl) (fun _ _ _ h => h) ?_ hHeld (tk 12 67 ?_ (by kernel_rfl) (fun _ _ _ h => h) ?_ hHeld ?_)
                      iterate 2 (rotate_left; focus (intro o ho; simp only [gZa, gZb, gZc, gZd] at ho; subst ho; refine Or.inl ⟨by rfl, ?_⟩; intro w hSw; (try dsimp only at hSw); (try simp only [Act.put, sZa, sZb, sZc]); go_simp; try with_reducible rfl))
                      try simp only [Act.put, sZa, sZb, sZc]
                      refine wpAnyH_done (by kernel_rfl) ?_ _
                      have HB5 := hid (HB4.out.trans (hB5.mono HB4.out.size))
                      have t0 := (hB5.cell (p := ⟨w.heap.size, 0, none⟩) zt).trans t0
                      have y2 := (hB5.cell (p := ⟨wr.heap.size, 2, none⟩) zy).trans y2
                      have y3 := (hB5.cell (p := ⟨wr.heap.size, 3, none⟩) zy).trans y3
                      have zt : w.heap.size < w5.heap.size := Nat.lt_of_lt_of_le zt hB5.size
                      have zy : wr.heap.size < w5.heap.size := Nat.lt_of_lt_of_le zy hB5.size
                      clear hHeld hB5 b5 HCS HLB j0 j1 j2 j3 j4 y0 y1 y4 hsub hwr hwr2 d2 d3 HSJ HSK HB4 HBF4 q1 q2 zb
                      cases Bf with
                      | false =>
                        have HF := hid (HNO.out (fun h => by
                          have e := h.2.2 (by have := HKJ.out; omega)
                          rw [show k - 1 = j by have := HKJ.out; omega, HEJ.out] at e
                          have := yes_t e; rw [HBf.out] at this; cases this))
                        have HZ := hid (HB1.out.trans (HB5.out.mono HB1.out.size))
                        clear HNO HCC
                        go_wp2_with fail
                        go_ret
                        exact ⟨ret_b HF.out.symm, HZ.out⟩
                      | true =>
                        have HORD : Hid (0 < k → cmpL (gL l (k - 1)) ⟨p, false, r, q, v⟩ < 0) := hid (fun _ => by
                          rw [show k - 1 = j by have := HKJ.out; omega, HEJ.out]; exact yes_iff.1 HBf.out)
                        have HY2 : Hid (∀ wi, Below w5.heap.size w5 wi → wi.cell? ⟨wr.heap.size, 2, none⟩ = some (.int .i64 r)) := hid (fun wi h => (h.cell (p := ⟨wr.heap.size, 2, none⟩) zy).trans y2)
                        have HY3 : Hid (∀ wi, Below w5.heap.size w5 wi → wi.cell? ⟨wr.heap.size, 3, none⟩ = some (.int .i64 q)) := hid (fun wi h => (h.cell (p := ⟨wr.heap.size, 3, none⟩) zy).trans y3)
                        go_wp2_with fail
                        go_loopw [5] (fun i wi => ∃ j : Nat, j ≤ k ∧ i = .int .i64 j ∧ Hid (Below w5.heap.size w5 wi) ∧ Hid (∀ t, t < j → Dif (gL l t) (gL l k))) (fun i _ => k - (intOf i).toNat)
                        case atStart => exact ⟨0, Nat.zero_le _, rfl, hid (Below.refl _ _), hid (fun t ht => by omega)⟩
                        case round =>
                          obtain ⟨j, hj, rfl, HBI, HDI⟩ := hrel
                          have g0 := (HBI.out.cell (p := ⟨w.heap.size, 0, none⟩) zt).trans t0
                          have g2 := HY2.out _ HBI.out
                          have g3 := HY3.out _ HBI.out
                          by_cases hjk : j < k
                          · obtain ⟨ja, jc, _, _, _, c2, c3, _⟩ := HCC.out j (by omega)
                            have j2 := (((HB5.out.trans (HBI.out.mono HB5.out.size)).cell (p := ⟨b, off + j * 5 + 2, none⟩) hb)).trans c2
                            have j3 := (((HB5.out.trans (HBI.out.mono HB5.out.size)).cell (p := ⟨b, off + j * 5 + 3, none⟩) hb)).trans c3
                            obtain ⟨yj, hyj⟩ : ∃ yj, gL l j = yj := ⟨_, rfl⟩
                            rw [hyj] at j2 j3
                            have HEJ := hid hyj
                            obtain ⟨pj, fj, rj, qj, vj⟩ := yj
                            dsimp only at j2 j3
                            have q1 : (0 : Int) ≤ (j : Int) := Int.natCast_nonneg _
                            have q2 : (j : Int) < (l.length : Int) := by omega
                            have q3 : (j : Int) < (k : Int) := by omega
                            have hG := dotGuard
                            have EQ : ∀ w : World, (binOp .eql 87 (.agg #[.int .i64 rj, .int .i64 qj]) (.agg #[.int .i64 r, .int .i64 q])).run Tryz.prog w = .ok (.bool (rj == r && qj == q)) w := fun w => eqlDot rj qj r q w
                            clear hyj c2 c3 t0 y2 y3
                            by_cases hr : rj = r
                            · have e1 : (rj == r) = true := by simpa using hr
                              by_cases hq : qj = q
                              · have e2 : (qj == q) = true := by simpa using hq
                                have EQ : ∀ w : World, (binOp .eql 87 (.agg #[.int .i64 rj, .int .i64 qj]) (.agg #[.int .i64 r, .int .i64 q])).run Tryz.prog w = .ok (.bool true) w := fun w => by rw [EQ w, e1, e2]; rfl
                                have HF : Hid (Y = false) := hid (by rw [← HY.out]; exact yes_f (fun h => h.2.2.2 k hlt j hjk (by rw [HEJ.out, HE.out]; exact ⟨hr, hq⟩)))
                                have HZ := hid (HB1.out.trans ((HB5.out.trans (HBI.out.mono HB5.out.size)).mono HB1.out.size))
                                clear HNO HDI HCC
                                go_wp2_with fail
                                go_quiet (fail)
                                go_wp2_with fail
                                go_ret
                                exact ⟨ret_b HF.out.symm, below_drewS HZ.out _⟩
                              · have e2 : (qj == q) = false := by simpa using hq
                                have EQ : ∀ w : World, (binOp .eql 87 (.agg #[.int .i64 rj, .int .i64 qj]) (.agg #[.int .i64 r, .int .i64 q])).run Tryz.prog w = .ok (.bool false) w := fun w => by rw [EQ w, e1, e2]; rfl
                                have HD : Hid (∀ t, t < j + 1 → Dif (gL l t) (gL l k)) := hid (fun t ht => by
                                  by_cases e : t = j
                                  · rw [e, HEJ.out, HE.out]; exact fun h => hq h.2
                                  · exact HDI.out t (by omega))
                                clear HNO HDI HCC
                                go_wp2_with fail
                                go_quiet (fail)
                                have HBN := hid (below_drewS HBI.out nq)
                                go_wp2_with fail
                                go_roundw
                                case rel => exact ⟨j + 1, hjk, by go_num, HBN, HD⟩
                                case measure => simp [intOf]; omega
                            · have e1 : (rj == r) = false := by simpa using hr
                              have EQ : ∀ w : World, (binOp .eql 87 (.agg #[.int .i64 rj, .int .i64 qj]) (.agg #[.int .i64 r, .int .i64 q])).run Tryz.prog w = .ok (.bool false) w := fun w => by rw [EQ w, e1]; rfl
                              have HD : Hid (∀ t, t < j + 1 → Dif (gL l t) (gL l k)) := hid (fun t ht => by
                                by_cases e : t = j
                                · rw [e, HEJ.out, HE.out]; exact fun h => hr h.1
                                · exact HDI.out t (by omega))
                              clear HNO HDI HCC
                              go_wp2_with fail
                              go_quiet (fail)
                              have HBN := hid (below_drewS HBI.out nq)
                              go_wp2_with fail
                              go_roundw
                              case rel => exact ⟨j + 1, hjk, by go_num, HBN, HD⟩
                              case measure => simp [intOf]; omega
                          · obtain rfl : j = k := by omega
                            have HN : Hid (LvOk R F T n l (j + 1) ∧ Dis l (j + 1)) := hid ⟨HI.out.1.step (by rw [HE.out]; exact HOK.out) (by rw [HE.out]; exact HHAS.out) (fun h => by rw [HE.out]; exact HORD.out h), HI.out.2.step HDI.out⟩
                            have HZ := hid (HB5.out.trans (HBI.out.mono HB5.out.size))
                            clear HNO HDI HCC t0 y2 y3 g0 g2 g3
                            go_wp2_with fail
                            go_roundw
                            case rel => exact ⟨j + 1, hlt, by go_num, HZ, HN⟩
                            case measure => simp [intOf]; omega
        · obtain rfl : k = l.length := by omega
          have HF : Hid (Y = true) := hid (by rw [← HY.out]; exact yes_t ⟨HC.out, by omega, HI.out.1, HI.out.2⟩)
          have HB := hid (HB1.out.trans (HBR.out.mono HB1.out.size))
          clear m0 m1
          go_wp2_with fail
          go_ret
          exact ⟨ret_b HF.out.symm, HB.out⟩
end Go.Proofs.YtakmpmhjcngbbaaGreatDoor
namespace Go.Proofs.YtakmpmhjcngbbaaGreatDoor
open Go.ChangeShapes Go.WideShapes Go.ChangeAt Go.RowKit Go.Maps
end Go.Proofs.YtakmpmhjcngbbaaGreatDoor
namespace Go.Proofs.YtakmpmhjcngbbaaGreatDoor
open Go.ChangeShapes Go.WideShapes Go.ChangeAt Go.RowKit
end Go.Proofs.YtakmpmhjcngbbaaGreatDoor
namespace Go.Proofs.YtakmpmhjcngbbaaGreatDoor
open Go.ChangeShapes Go.WideShapes Go.ChangeAt Go.RowKit Go.Maps
noncomputable def Mk (l : List Lf) : Nat → List Ky → Dt → Option ByteArray
  | 0 => fun _ _ => none
  | k + 1 => updM (Mk l k) (wayOf (gL l k).p (kd (gL l k).fl)) ((gL l k).r, (gL l k).q) (gL l k).v
def Way (x : Lf) : List Ky := wayOf x.p (kd x.fl)
theorem Mk_ne {l : List Lf} {p : List Ky} {d : Dt} : ∀ {k : Nat}, Mk l k p d ≠ none ↔ ∃ j, j < k ∧ Way (gL l j) = p ∧ ((gL l j).r, (gL l j).q) = d
  | 0 => ⟨fun h => absurd rfl h, fun ⟨j, hj, _⟩ => by omega⟩
  | k + 1 => by
    have ih := Mk_ne (l := l) (p := p) (d := d) (k := k)
    simp only [Mk]
    by_cases e : p = wayOf (gL l k).p (kd (gL l k).fl)
    · rw [e, updM_same, ← e]
      by_cases e2 : d = ((gL l k).r, (gL l k).q)
      · rw [e2, updF_same]
        exact ⟨fun _ => ⟨k, by omega, e.symm, rfl⟩, fun _ h => by cases h⟩
      · rw [updF_other _ _ e2, ih]
        constructor
        · rintro ⟨j, hj, r⟩; exact ⟨j, by omega, r⟩
        · rintro ⟨j, hj, r1, r2⟩
          by_cases ej : j = k
          · subst ej; exact absurd r2.symm e2
          · exact ⟨j, by omega, r1, r2⟩
    · rw [updM_other _ _ _ e, ih]
      constructor
      · rintro ⟨j, hj, r⟩; exact ⟨j, by omega, r⟩
      · rintro ⟨j, hj, r1, r2⟩
        by_cases ej : j = k
        · subst ej; exact absurd r1.symm e
        · exact ⟨j, by omega, r1, r2⟩
def NkI (l : List Lf) (k : Nat) (N : List Ky → Option (Nat × Nat)) : Prop := ∀ z, (N z).isSome = true ↔ z = [] ∨ ∃ j, j < k ∧ z <+: Way (gL l j)
end Go.Proofs.YtakmpmhjcngbbaaGreatDoor
