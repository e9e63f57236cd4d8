import Derived.Test.YtdfdhokbgmflfaaKyb
namespace Go.Proofs.Ytdfdhokbgmflfaa
open Go.ChangeShapes Go.WideShapes Go.ChangeAt Go.RowKit
set_option linter.unusedVariables false
set_option linter.unusedSimpArgs false

def KyOk (R F T : Nat → Int) (n : Nat) (l : List Lf) (p : List ByteArray) : Prop := StOk R F T n l ∧ (p.length = 0 ∨ PthOk p)
set_option maxRecDepth 100000 in
set_option maxHeartbeats 8000000 in
theorem specKeys (a : Option Addr) (c : Nat) (l : List Lf) (x : Option Addr) (n d : Nat) (R F T : Nat → Int) (p : List ByteArray) (pa : Option Addr) (w : World) (hn : l.length ≤ 1048576) (hp : LBd l) (hm : n ≤ 1048576) (hq : p.length ≤ 1048576) (h : LCap w a l) (h' : RSeg w x n R F T) (hs : SSeg w pa p) :
    Calls Try.prog 6 #[.agg #[.slice a l.length c, .slice x n d], .slice pa p.length p.length] w fun e w' => (∃ v ts, e = .returned (.tuple #[v, .bool (yes (KyOk R F T n l p))]) ∧ w'.ownsRow w.heap.size 57 2 v ts.length (kRow ts) ∧ ts.length ≤ 1048576 ∧ (KyOk R F T n l p → ts = kS l p l.length) ∧ (¬ KyOk R F T n l p → ts = [])) ∧ Below w.heap.size w w' := by
  obtain ⟨W0, hW0⟩ : ∃ W0, w.alloc (.cells #[.slice a l.length c, .slice x n d] 39) = W0 := ⟨_, rfl⟩
  obtain ⟨W, hW⟩ : ∃ W, W0.alloc (.cells #[] 57) = W := ⟨_, rfl⟩
  have b0 : Below w.heap.size w W := by rw [← hW, ← hW0]; exact below2 _ _ _
  have z0 : w.heap.size < W0.heap.size := by rw [← hW0]; simp
  have B0 : Bx2 W w.heap.size (.slice a l.length c) (.slice x n d) := by rw [← hW, ← hW0]; exact (Bx2.made _ _ _ _).allocs _
  have O0 : W.ownsRow w.heap.size 57 2 (.slice (some ⟨W0.heap.size, 0, none⟩) 0 0) 0 [] := ⟨rfl, .inr ⟨W0.heap.size, 0, #[], rfl, by omega, by rw [← hW]; exact World.alloc_heap_new _ _, by omega, by unfold maxLen; omega, rfl, rfl⟩⟩
  have HSP := hid (specStateOk a c l x n d R F T W hn hp hm (h.below b0) (h'.below b0))
  have HL := hid h
  have HS := hid hs
  have X0 : W.heap[w.heap.size]? = some (.cells #[.slice a l.length c, .slice x n d] 39 (0, 0)) := by rw [← hW, Below.heap_alloc _ _ _ z0, ← hW0]; exact World.alloc_heap_new _ _
  have HX0 := hid X0
  have HB0 := hid b0
  have HBx := hid B0
  have HO0 := hid O0
  have k0 := B0.c0
  have k1 := B0.c1
  obtain ⟨Y, hY⟩ : ∃ Y, yes (StOk R F T n l) = Y := ⟨_, rfl⟩
  have HY := hid hY
  rw [hY] at HSP
  clear h h' hs b0 B0 O0 hY X0
  go_enter Try.func6, Try.ntmps6
  go_wp2_with fail
  try rw [hW0]
  try rw [hW]
  clear hW hW0
  refine HSP.out.mono ?_
  rintro e w1 ⟨rfl, b1⟩
  have HB1 := hid (keepS HB0.out b1)
  have HO1 := hid (owns_below HO0.out b1 (fun k hk => (HO0.out.lt k hk).2))
  have HS1 := hid (HS.out.below HB1.out)
  have HX1 := hid ((b1.block _ (Array.getElem?_eq_some_iff.1 HX0.out).1).trans HX0.out)
  clear b1 HSP k0 k1 HBx HO0 HX0
  cases Y with
  | false =>
    have HF : Hid (¬ KyOk R F T n l p) := hid (fun h => by have := HY.out; rw [yes_t h.1] at this; cases this)
    go_wp2_with fail
    go_ret2
    exact ⟨⟨_, [], by rw [yes_f HF.out]; rfl, HO1.out, by simp, fun h => absurd h HF.out, fun _ => rfl⟩, HB1.out⟩
  | true =>
    have HOK := hid (yes_iff.1 HY.out)
    by_cases hp0 : p.length = 0
    · have HKY : Hid (yes (KyOk R F T n l p) = true) := hid (yes_t ⟨HOK.out, .inl hp0⟩)
      have dp : decide ((0 : Int) < (p.length : Int)) = false := by simp; exact List.eq_nil_of_length_eq_zero hp0
      have dp2 : decide (0 < p.length) = false := by simp; exact List.eq_nil_of_length_eq_zero hp0
      clear hp0
      go_wp2_with fail
      go_loopw [6, 7] (fun o i wr => ∃ k : Nat, k ≤ l.length ∧ i = .int .i64 k ∧ Hid (Below w.heap.size w wr) ∧ Hid (wr.heap[w.heap.size]? = some (.cells #[.slice a l.length c, .slice x n d] 39 (0, 0))) ∧ Hid (wr.ownsRow w.heap.size 57 2 o (kS l p k).length (kRow (kS l p k)))) (fun _ i _ => l.length - (intOf i).toNat)
      case atStart => exact ⟨0, Nat.zero_le _, rfl, HB1, HX1, HO1⟩
      case round =>
        obtain ⟨k, hk, rfl, HB, HX, HO⟩ := hrel
        have k0 : wr.cell? ⟨w.heap.size, 0, none⟩ = some (.slice a l.length c) := by have := HX.out; simp [World.cell?, this]
        have hwlt : w.heap.size < wr.heap.size := (Array.getElem?_eq_some_iff.1 HX.out).1
        by_cases hlt : k < l.length
        · rcases HL.out with h | ⟨b, off, rfl, hb, hc⟩
          · omega
          obtain ⟨qa, qc, ⟨c0, hcap⟩, sg, c1, c2, c3, c4⟩ := hc k hlt
          have x0 := (HB.out.cell (p := ⟨b, off + k * 5, none⟩) hb).trans c0
          have x1 := (HB.out.cell (p := ⟨b, off + k * 5 + 1, none⟩) hb).trans c1
          have x2 := (HB.out.cell (p := ⟨b, off + k * 5 + 2, none⟩) hb).trans c2
          have x3 := (HB.out.cell (p := ⟨b, off + k * 5 + 3, none⟩) hb).trans c3
          have x4 := (HB.out.cell (p := ⟨b, off + k * 5 + 4, none⟩) hb).trans c4
          have i1 : (0 : Int) ≤ (k : Int) := Int.natCast_nonneg _
          have i2 : (k : Int) < (l.length : Int) := by omega
          have HSG := hid (sg.below HB.out)
          have hpk := hp k
          obtain ⟨y, hy⟩ : ∃ y, gL l k = y := ⟨_, rfl⟩
          rw [hy] at x0 x1 x2 x3 x4 HSG hpk hcap
          have HE := hid hy
          obtain ⟨lp, fl, r, q, v⟩ := y
          dsimp only at x0 x1 x2 x3 x4 HSG hpk hcap
          have HCAP := hid hcap
          clear hc c0 c1 c2 c3 c4 sg hy hcap
          obtain ⟨W2, hW2⟩ : ∃ W2, wr.alloc (.cells #[.slice qa lp.length qc, .bool fl, .int .i64 r, .int .i64 q, .string v] 55) = W2 := ⟨_, rfl⟩
          have b2 : Below wr.heap.size wr W2 := by rw [← hW2]; exact (Below.refl _ _).alloc (Nat.le_refl _) _
          have B5 : Bx5 W2 wr.heap.size (.slice qa lp.length qc) (.bool fl) (.int .i64 r) (.int .i64 q) (.string v) := by rw [← hW2]; exact ⟨by simp, by simp, by simp, by simp, by simp, fun i => by simp, by simp⟩
          have HB5 := hid B5
          have y0 := B5.c0
          have HU := hid (underSpec p lp pa qa p.length qc W2 (Nat.le_refl _) HCAP.out.1 (by omega) HCAP.out.2 ((HS.out.below HB.out).below b2) (HSG.out.below b2))
          have HB2 := hid (HB.out.trans (b2.mono HB.out.size))
          have HX2 := hid ((b2.block _ hwlt).trans HX.out)
          have HO2 := hid (owns_below HO.out b2 (fun k hk => (HO.out.lt k hk).2))
          have HSG2 := hid (HSG.out.below b2)
          obtain ⟨U, hU⟩ : ∃ U, yes (p <+: lp) = U := ⟨_, rfl⟩
          rw [hU] at HU
          have HUe := hid hU
          clear b2 B5 hU
          go_wp2_with fail
          try rw [hW2]
          clear hW2
          refine HU.out.mono ?_
          rintro e w3 ⟨rfl, dn, hw3⟩
          have n0 : w3.cell? ⟨wr.heap.size, 0, none⟩ = some (.slice qa lp.length qc) := by rw [hw3]; exact HB5.out.c0
          have n1 : w3.cell? ⟨wr.heap.size, 1, none⟩ = some (.bool fl) := by rw [hw3]; exact HB5.out.c1
          have HZL : Hid (wr.heap.size < w3.heap.size) := hid (by rw [hw3]; exact HB5.out.lt)
          have HB3 : Hid (Below w.heap.size w w3) := hid (by rw [hw3]; exact below_drewS HB2.out _)
          have HX3 : Hid (w3.heap[w.heap.size]? = some (.cells #[.slice (some ⟨b, off, none⟩) l.length c, .slice x n d] 39 (0, 0))) := hid (by rw [hw3]; exact HX2.out)
          have HZ3 : Hid (w.heap.size < w3.heap.size) := hid (Array.getElem?_eq_some_iff.1 HX3.out).1
          have HO3 : Hid (w3.ownsRow w.heap.size 57 2 u6 (kS l p k).length (kRow (kS l p k))) := hid (by rw [hw3]; exact HO2.out)
          have HSG3 : Hid (SSeg w3 qa lp) := hid (by rw [hw3]; exact HSG2.out)
          clear HU hw3 HB2 HX2 HO2 HSG2 HB HX HO HSG HB5 y0 k0 x0 x1 x2 x3 x4 hwlt
          cases U with
          | false =>
            have HN : Hid (nx p (gL l k) = none) := hid (by rw [HE.out]; unfold nx; rw [yes_f (fun h => by have := HUe.out; rw [yes_t h.1] at this; cases this)]; simp)
            go_wp2_with fail
            go_roundw
            case rel => exact ⟨k + 1, hlt, by go_num, HB3, HX3, hid (by rw [kS_none HN.out]; exact HO3.out)⟩
            case measure => simp [intOf]; omega
          | true =>
            have HPre := hid (yes_iff.1 HUe.out)
            have hle := HPre.out.length_le
            by_cases heq : lp.length = p.length
            · have HN : Hid (nx p (gL l k) = none) := hid (by rw [HE.out]; unfold nx; rw [yes_f (fun h => by have := h.2; simp at this; omega)]; simp)
              have de : ((lp.length : Int) == (p.length : Int)) = true := by simp; omega
              have de2 : (lp.length == p.length) = true := by simp; omega
              go_wp2_with fail
              go_roundw
              case rel => exact ⟨k + 1, hlt, by go_num, HB3, HX3, hid (by rw [kS_none HN.out]; exact HO3.out)⟩
              case measure => simp [intOf]; omega
            · have de : ((lp.length : Int) == (p.length : Int)) = false := by simp; omega
              have de2 : (lp.length == p.length) = false := by simp; omega
              have hl2 : p.length < lp.length := by omega
              rcases HSG3.out with h | ⟨qb, qoff, rfl, hqb, hqc⟩
              · omega
              have q0 := hqc p.length hl2
              obtain ⟨s, hs⟩ : ∃ s, gS lp p.length = s := ⟨_, rfl⟩
              rw [hs] at q0
              have HNx : Hid (nx p ⟨lp, fl, r, q, v⟩ = some (s, if p.length + 1 < lp.length then 3 else kd fl)) := hid (by unfold nx; rw [if_pos (yes_t ⟨HPre.out, hl2⟩)]; unfold onWay; simp only []; rw [hs])
              have p0 : (0 : Int) ≤ (p.length : Int) := Int.natCast_nonneg _
              have p1 : (p.length : Int) < (lp.length : Int) := by omega
              clear hqc hs HPre HUe
              by_cases hlong : p.length + 1 < lp.length
              · have dl : decide ((p.length : Int) + 1 < (lp.length : Int)) = true := by simp; omega
                have dl2 : decide (p.length + 1 < lp.length) = true := by simp; omega
                have HN : Hid (nx p ⟨lp, fl, r, q, v⟩ = some (s, 3)) := hid (by rw [HNx.out, if_pos hlong])
                obtain ⟨w4, hw4⟩ : ∃ w4, w3.alloc (.cells #[.string s, .int .i64 3] 57) = w4 := ⟨_, rfl⟩
                have b4 : Below w3.heap.size w3 w4 := by rw [← hw4]; exact (Below.refl _ _).alloc (Nat.le_refl _) _
                have K4 : Bx2 w4 w3.heap.size (.string s) (.int .i64 3) := by rw [← hw4]; exact Bx2.made _ _ _ _
                have g0 := K4.c0
                have g1 := K4.c1
                have HB4 := hid (HB3.out.trans (b4.mono HB3.out.size))
                have HX4 := hid ((b4.block _ HZ3.out).trans HX3.out)
                have HO4 := hid (owns_below HO3.out b4 (fun k hk => (HO3.out.lt k hk).2))
                obtain ⟨ao, co, rfl, hks, hco, hcm⟩ := own_kseg HO4.out
                have HKS := hid hks
                have hll : (kS l p k).length ≤ 1048576 := Nat.le_trans (kS_len l p k) (by omega)
                have m0 := (b4.cell (p := ⟨wr.heap.size, 0, none⟩) HZL.out).trans n0
                have m1 := (b4.cell (p := ⟨wr.heap.size, 1, none⟩) HZL.out).trans n1
                have hneq := fun (s' : ByteArray) (k' : Int) w => neqKey s' s k' 3 w
                have hzl := HZL.out
                clear b4 K4 hks
                by_cases hem : (kS l p k).length = 0
                · have HE0 : Hid (kS l p k = []) := hid (List.eq_nil_of_length_eq_zero hem)
                  have HST : Hid (kS l p (k + 1) = kS l p k ++ [(s, 3)]) := hid (by rw [kS_some (by rw [HE.out]; exact HN.out), if_neg]; rw [HE0.out, yes_f (by simp)]; simp)
                  have dz : (((kS l p k).length : Int) == 0) = true := by simp; exact HE0.out
                  have dz2 : ((kS l p k).length == 0) = true := by simp; exact HE0.out
                  have HEM := hid hem
                  clear hem
                  go_wp2_with fail
                  try rw [hw4]
                  clear hw4
                  go_quiet (fail)
                  obtain ⟨i0, hi0, hz0, hz1, hz2⟩ := info_parts infoKey
                  have hb1 : (kS l p k).length + 1 ≤ maxLen := by unfold maxLen; omega
                  have hb2 : ((kS l p k).length + 1) * 24 ≤ 140737488355328 := by omega
                  have hb3 : w.heap.size ≤ w4.heap.size + 1 := by have := HB4.out.size; omega
                  have HO5 : Hid ((w4.drewN nq).ownsRow w.heap.size 57 2 (.slice ao (kS l p k).length co) (kS l p k).length (kRow (kS l p k))) := hid HO4.out
                  have HAP : Hid (∀ (v' : Value) (w6 : World), w6.ownsRow w.heap.size 57 2 v' ((kS l p k).length + 1) (kRow (kS l p k) ++ [.string s, .int .i64 3]) → ((w4.drewN nq).alloc (.cells #[.string s, .int .i64 3] 57)).grownBy w6 (Value.slice ao (kS l p k).length co).ownBlock → Below w.heap.size w w6 ∧ w6.heap[w.heap.size]? = some (.cells #[.slice (some ⟨b, off, none⟩) l.length c, .slice x n d] 39 (0, 0)) ∧ w6.ownsRow w.heap.size 57 2 v' (kS l p (k + 1)).length (kRow (kS l p (k + 1)))) := hid (fun v' w6 ho hg => by
                    have hOa := HO5.out.alloc (.cells #[.string s, .int .i64 3] 57)
                    have hxa : ((w4.drewN nq).alloc (.cells #[.string s, .int .i64 3] 57)).heap[w.heap.size]? = some (.cells #[.slice (some ⟨b, off, none⟩) l.length c, .slice x n d] 39 (0, 0)) := (Below.heap_alloc _ _ _ (Array.getElem?_eq_some_iff.1 HX4.out).1).trans HX4.out
                    refine ⟨((below_drewS HB4.out nq).alloc (below_drewS HB4.out nq).size _).grown hg (by simp; exact hb3) (fun j hj => (hOa.lt j hj).1), (hg.block _ (Array.getElem?_eq_some_iff.1 hxa).1 ?_).trans hxa, ?_⟩
                    · rcases ownsRow_ne_a hOa hxa (fun cur e => by injection e with _ e; exact absurd e (by decide)) with e | e
                      · rw [e]; simp
                      · exact fun e' => e e'.symm
                    · rw [HST.out, kRow_snoc, List.length_append]; exact ho)
                  clear HO4 HKS hll
                  go_wp2_with (at_builtin; refine wpList_append_own _ rfl _ _ 31 rfl w.heap.size 57 i0 (.agg #[.string ByteArray.empty, .int .i64 0]) 2 24 Try.underlying31 hi0 hz0 hz1 hz2 rfl (by decide) _ _ _ rfl (HO5.out.alloc _) ⟨w4.heap.size, 0, none⟩ 1 1 [.string s, .int .i64 3] rfl rfl (cell_two_new (w4.drewN nq) _ _ _) (by simp [Value.oneCell']) hb1 hb2 (by simp; exact hb3) ?_; intro v' w6 hown' hgr hnil; obtain ⟨A1, A2, A3⟩ := HAP.out v' w6 hown' hgr; have HA1 := hid A1; have HA2 := hid A2; have HA3 := hid A3; clear hown' hgr hnil A1 A2 A3)
                  go_roundw
                  case rel => exact ⟨k + 1, hlt, by go_num, HA1, HA2, HA3⟩
                  case measure => simp [intOf]; omega
                · have hlp : 0 < (kS l p k).length := by omega
                  obtain ⟨ys, u, hu⟩ : ∃ ys u, kS l p k = ys ++ [u] := ⟨(kS l p k).dropLast, (kS l p k).getLast (fun e => hem (by rw [e]; rfl)), (List.dropLast_concat_getLast _).symm⟩
                  obtain ⟨kb, koff, hao, hkb, hkc⟩ : ∃ b off, ao = some ⟨b, off, none⟩ ∧ b < w4.heap.size ∧ ∀ i, i < (kS l p k).length → w4.cell? ⟨b, off + i * 2, none⟩ = some (.string (gK (kS l p k) i).1) ∧ w4.cell? ⟨b, off + i * 2 + 1, none⟩ = some (.int .i64 (gK (kS l p k) i).2) := by
                    rcases HKS.out with h | h
                    · exact absurd h hem
                    · exact h
                  subst hao
                  obtain ⟨nl, hnl⟩ : ∃ nl, (kS l p k).length = nl + 1 := ⟨(kS l p k).length - 1, by omega⟩
                  obtain ⟨r0, r1⟩ := hkc nl (by omega)
                  have hgu : gK (kS l p k) nl = u := by
                    have : (kS l p k).length = ys.length + 1 := by rw [hu]; simp
                    have e2 : nl = ys.length := by omega
                    rw [hu, e2]; simp [gK, List.getD]
                  rw [hgu] at r0 r1
                  obtain ⟨us, uk⟩ := u
                  dsimp only at r0 r1
                  have HLast : Hid ((kS l p k).getLast? = some (us, uk)) := hid (by rw [hu]; simp)
                  have hw1 : IntKind.i64.wrap (((kS l p k).length : Int) - 1) = (nl : Int) := by rw [IntKind.wrap_i64]; omega
                  have dz : (((kS l p k).length : Int) == 0) = false := by simp; intro e; rw [e] at hem; simp at hem
                  have dz2 : ((kS l p k).length == 0) = false := by simp; intro e; rw [e] at hem; simp at hem
                  have j0 : (0 : Int) ≤ (nl : Int) := Int.natCast_nonneg _
                  have j1 : (nl : Int) < ((kS l p k).length : Int) := by omega
                  have hneq1 := hneq us uk
                  have HNL := hid hnl
                  clear hneq hkc hu hgu hnl
                  cases hcmp : (us.toList == s.toList && uk == 3) with
                  | true =>
                    have HST : Hid (kS l p (k + 1) = kS l p k) := hid (by
                      rw [kS_some (by rw [HE.out]; exact HN.out), if_pos]
                      rw [yes_t]; rw [HLast.out]
                      simp only [Bool.and_eq_true, beq_iff_eq] at hcmp
                      rw [toList_inj hcmp.1, hcmp.2])
                    rw [hcmp] at hneq1
                    clear hcmp
                    go_wp2_with fail
                    try rw [hw4]
                    clear hw4
                    go_quiet (fail)
                    go_wp2_with fail
                    go_roundw
                    case rel => exact ⟨k + 1, hlt, by go_num, hid (below_drewS HB4.out _), HX4, hid (by rw [HST.out]; exact HO4.out)⟩
                    case measure => simp [intOf]; omega
                  | false =>
                    have HST : Hid (kS l p (k + 1) = kS l p k ++ [(s, 3)]) := hid (by
                      rw [kS_some (by rw [HE.out]; exact HN.out), if_neg]
                      rw [yes_f]
                      · simp
                      · intro e; rw [HLast.out] at e; injection e with e; injection e with e1 e2; subst e1; subst e2; simp at hcmp)
                    rw [hcmp] at hneq1
                    clear hcmp
                    go_wp2_with fail
                    try rw [hw4]
                    clear hw4
                    go_quiet (fail)
                    obtain ⟨i0, hi0, hz0, hz1, hz2⟩ := info_parts infoKey
                    have hb1 : (kS l p k).length + 1 ≤ maxLen := by unfold maxLen; omega
                    have hb2 : ((kS l p k).length + 1) * 24 ≤ 140737488355328 := by omega
                    have hb3 : w.heap.size ≤ w4.heap.size + 1 := by have := HB4.out.size; omega
                    have HO5 : Hid ((w4.drewN nq).ownsRow w.heap.size 57 2 (.slice (some ⟨kb, koff, none⟩) (kS l p k).length co) (kS l p k).length (kRow (kS l p k))) := hid HO4.out
                    have HAP : Hid (∀ (v' : Value) (w6 : World), w6.ownsRow w.heap.size 57 2 v' ((kS l p k).length + 1) (kRow (kS l p k) ++ [.string s, .int .i64 3]) → ((w4.drewN nq).alloc (.cells #[.string s, .int .i64 3] 57)).grownBy w6 (Value.slice (some ⟨kb, koff, none⟩) (kS l p k).length co).ownBlock → Below w.heap.size w w6 ∧ w6.heap[w.heap.size]? = some (.cells #[.slice (some ⟨b, off, none⟩) l.length c, .slice x n d] 39 (0, 0)) ∧ w6.ownsRow w.heap.size 57 2 v' (kS l p (k + 1)).length (kRow (kS l p (k + 1)))) := hid (fun v' w6 ho hg => by
                      have hOa := HO5.out.alloc (.cells #[.string s, .int .i64 3] 57)
                      have hxa : ((w4.drewN nq).alloc (.cells #[.string s, .int .i64 3] 57)).heap[w.heap.size]? = some (.cells #[.slice (some ⟨b, off, none⟩) l.length c, .slice x n d] 39 (0, 0)) := (Below.heap_alloc _ _ _ (Array.getElem?_eq_some_iff.1 HX4.out).1).trans HX4.out
                      refine ⟨((below_drewS HB4.out nq).alloc (below_drewS HB4.out nq).size _).grown hg (by simp; exact hb3) (fun j hj => (hOa.lt j hj).1), (hg.block _ (Array.getElem?_eq_some_iff.1 hxa).1 ?_).trans hxa, ?_⟩
                      · rcases ownsRow_ne_a hOa hxa (fun cur e => by injection e with _ e; exact absurd e (by decide)) with e | e
                        · rw [e]; simp
                        · exact fun e' => e e'.symm
                      · rw [HST.out, kRow_snoc, List.length_append]; exact ho)
                    clear HO4 HKS hll
                    go_wp2_with (at_builtin; refine wpList_append_own _ rfl _ _ 31 rfl w.heap.size 57 i0 (.agg #[.string ByteArray.empty, .int .i64 0]) 2 24 Try.underlying31 hi0 hz0 hz1 hz2 rfl (by decide) _ _ _ rfl (HO5.out.alloc _) ⟨w4.heap.size, 0, none⟩ 1 1 [.string s, .int .i64 3] rfl rfl (cell_two_new (w4.drewN nq) _ _ _) (by simp [Value.oneCell']) hb1 hb2 (by simp; exact hb3) ?_; intro v' w6 hown' hgr hnil; obtain ⟨A1, A2, A3⟩ := HAP.out v' w6 hown' hgr; have HA1 := hid A1; have HA2 := hid A2; have HA3 := hid A3; clear hown' hgr hnil A1 A2 A3)
                    go_roundw
                    case rel => exact ⟨k + 1, hlt, by go_num, HA1, HA2, HA3⟩
                    case measure => simp [intOf]; omega
              · have dl : decide ((p.length : Int) + 1 < (lp.length : Int)) = false := by simp; omega
                have dl2 : decide (p.length + 1 < lp.length) = false := by simp; omega
                cases fl with
                | true =>
                  have HN : Hid (nx p ⟨lp, true, r, q, v⟩ = some (s, 2)) := hid (by rw [HNx.out, if_neg hlong]; rfl)
                  obtain ⟨w4, hw4⟩ : ∃ w4, w3.alloc (.cells #[.string s, .int .i64 2] 57) = w4 := ⟨_, rfl⟩
                  have b4 : Below w3.heap.size w3 w4 := by rw [← hw4]; exact (Below.refl _ _).alloc (Nat.le_refl _) _
                  have K4 : Bx2 w4 w3.heap.size (.string s) (.int .i64 2) := by rw [← hw4]; exact Bx2.made _ _ _ _
                  have g0 := K4.c0
                  have g1 := K4.c1
                  have HB4 := hid (HB3.out.trans (b4.mono HB3.out.size))
                  have HX4 := hid ((b4.block _ HZ3.out).trans HX3.out)
                  have HO4 := hid (owns_below HO3.out b4 (fun k hk => (HO3.out.lt k hk).2))
                  obtain ⟨ao, co, rfl, hks, hco, hcm⟩ := own_kseg HO4.out
                  have HKS := hid hks
                  have hll : (kS l p k).length ≤ 1048576 := Nat.le_trans (kS_len l p k) (by omega)
                  have m0 := (b4.cell (p := ⟨wr.heap.size, 0, none⟩) HZL.out).trans n0
                  have m1 := (b4.cell (p := ⟨wr.heap.size, 1, none⟩) HZL.out).trans n1
                  have hneq := fun (s' : ByteArray) (k' : Int) w => neqKey s' s k' 2 w
                  have hzl := HZL.out
                  clear b4 K4 hks
                  by_cases hem : (kS l p k).length = 0
                  · have HE0 : Hid (kS l p k = []) := hid (List.eq_nil_of_length_eq_zero hem)
                    have HST : Hid (kS l p (k + 1) = kS l p k ++ [(s, 2)]) := hid (by rw [kS_some (by rw [HE.out]; exact HN.out), if_neg]; rw [HE0.out, yes_f (by simp)]; simp)
                    have dz : (((kS l p k).length : Int) == 0) = true := by simp; exact HE0.out
                    have dz2 : ((kS l p k).length == 0) = true := by simp; exact HE0.out
                    have HEM := hid hem
                    clear hem
                    go_wp2_with fail
                    try rw [hw4]
                    clear hw4
                    go_quiet (fail)
                    obtain ⟨i0, hi0, hz0, hz1, hz2⟩ := info_parts infoKey
                    have hb1 : (kS l p k).length + 1 ≤ maxLen := by unfold maxLen; omega
                    have hb2 : ((kS l p k).length + 1) * 24 ≤ 140737488355328 := by omega
                    have hb3 : w.heap.size ≤ w4.heap.size + 1 := by have := HB4.out.size; omega
                    have HO5 : Hid ((w4.drewN nq).ownsRow w.heap.size 57 2 (.slice ao (kS l p k).length co) (kS l p k).length (kRow (kS l p k))) := hid HO4.out
                    have HAP : Hid (∀ (v' : Value) (w6 : World), w6.ownsRow w.heap.size 57 2 v' ((kS l p k).length + 1) (kRow (kS l p k) ++ [.string s, .int .i64 2]) → ((w4.drewN nq).alloc (.cells #[.string s, .int .i64 2] 57)).grownBy w6 (Value.slice ao (kS l p k).length co).ownBlock → Below w.heap.size w w6 ∧ w6.heap[w.heap.size]? = some (.cells #[.slice (some ⟨b, off, none⟩) l.length c, .slice x n d] 39 (0, 0)) ∧ w6.ownsRow w.heap.size 57 2 v' (kS l p (k + 1)).length (kRow (kS l p (k + 1)))) := hid (fun v' w6 ho hg => by
                      have hOa := HO5.out.alloc (.cells #[.string s, .int .i64 2] 57)
                      have hxa : ((w4.drewN nq).alloc (.cells #[.string s, .int .i64 2] 57)).heap[w.heap.size]? = some (.cells #[.slice (some ⟨b, off, none⟩) l.length c, .slice x n d] 39 (0, 0)) := (Below.heap_alloc _ _ _ (Array.getElem?_eq_some_iff.1 HX4.out).1).trans HX4.out
                      refine ⟨((below_drewS HB4.out nq).alloc (below_drewS HB4.out nq).size _).grown hg (by simp; exact hb3) (fun j hj => (hOa.lt j hj).1), (hg.block _ (Array.getElem?_eq_some_iff.1 hxa).1 ?_).trans hxa, ?_⟩
                      · rcases ownsRow_ne_a hOa hxa (fun cur e => by injection e with _ e; exact absurd e (by decide)) with e | e
                        · rw [e]; simp
                        · exact fun e' => e e'.symm
                      · rw [HST.out, kRow_snoc, List.length_append]; exact ho)
                    clear HO4 HKS hll
                    go_wp2_with (at_builtin; refine wpList_append_own _ rfl _ _ 31 rfl w.heap.size 57 i0 (.agg #[.string ByteArray.empty, .int .i64 0]) 2 24 Try.underlying31 hi0 hz0 hz1 hz2 rfl (by decide) _ _ _ rfl (HO5.out.alloc _) ⟨w4.heap.size, 0, none⟩ 1 1 [.string s, .int .i64 2] rfl rfl (cell_two_new (w4.drewN nq) _ _ _) (by simp [Value.oneCell']) hb1 hb2 (by simp; exact hb3) ?_; intro v' w6 hown' hgr hnil; obtain ⟨A1, A2, A3⟩ := HAP.out v' w6 hown' hgr; have HA1 := hid A1; have HA2 := hid A2; have HA3 := hid A3; clear hown' hgr hnil A1 A2 A3)
                    go_roundw
                    case rel => exact ⟨k + 1, hlt, by go_num, HA1, HA2, HA3⟩
                    case measure => simp [intOf]; omega
                  · have hlp : 0 < (kS l p k).length := by omega
                    obtain ⟨ys, u, hu⟩ : ∃ ys u, kS l p k = ys ++ [u] := ⟨(kS l p k).dropLast, (kS l p k).getLast (fun e => hem (by rw [e]; rfl)), (List.dropLast_concat_getLast _).symm⟩
                    obtain ⟨kb, koff, hao, hkb, hkc⟩ : ∃ b off, ao = some ⟨b, off, none⟩ ∧ b < w4.heap.size ∧ ∀ i, i < (kS l p k).length → w4.cell? ⟨b, off + i * 2, none⟩ = some (.string (gK (kS l p k) i).1) ∧ w4.cell? ⟨b, off + i * 2 + 1, none⟩ = some (.int .i64 (gK (kS l p k) i).2) := by
                      rcases HKS.out with h | h
                      · exact absurd h hem
                      · exact h
                    subst hao
                    obtain ⟨nl, hnl⟩ : ∃ nl, (kS l p k).length = nl + 1 := ⟨(kS l p k).length - 1, by omega⟩
                    obtain ⟨r0, r1⟩ := hkc nl (by omega)
                    have hgu : gK (kS l p k) nl = u := by
                      have : (kS l p k).length = ys.length + 1 := by rw [hu]; simp
                      have e2 : nl = ys.length := by omega
                      rw [hu, e2]; simp [gK, List.getD]
                    rw [hgu] at r0 r1
                    obtain ⟨us, uk⟩ := u
                    dsimp only at r0 r1
                    have HLast : Hid ((kS l p k).getLast? = some (us, uk)) := hid (by rw [hu]; simp)
                    have hw1 : IntKind.i64.wrap (((kS l p k).length : Int) - 1) = (nl : Int) := by rw [IntKind.wrap_i64]; omega
                    have dz : (((kS l p k).length : Int) == 0) = false := by simp; intro e; rw [e] at hem; simp at hem
                    have dz2 : ((kS l p k).length == 0) = false := by simp; intro e; rw [e] at hem; simp at hem
                    have j0 : (0 : Int) ≤ (nl : Int) := Int.natCast_nonneg _
                    have j1 : (nl : Int) < ((kS l p k).length : Int) := by omega
                    have hneq1 := hneq us uk
                    have HNL := hid hnl
                    clear hneq hkc hu hgu hnl
                    cases hcmp : (us.toList == s.toList && uk == 2) with
                    | true =>
                      have HST : Hid (kS l p (k + 1) = kS l p k) := hid (by
                        rw [kS_some (by rw [HE.out]; exact HN.out), if_pos]
                        rw [yes_t]; rw [HLast.out]
                        simp only [Bool.and_eq_true, beq_iff_eq] at hcmp
                        rw [toList_inj hcmp.1, hcmp.2])
                      rw [hcmp] at hneq1
                      clear hcmp
                      go_wp2_with fail
                      try rw [hw4]
                      clear hw4
                      go_quiet (fail)
                      go_wp2_with fail
                      go_roundw
                      case rel => exact ⟨k + 1, hlt, by go_num, hid (below_drewS HB4.out _), HX4, hid (by rw [HST.out]; exact HO4.out)⟩
                      case measure => simp [intOf]; omega
                    | false =>
                      have HST : Hid (kS l p (k + 1) = kS l p k ++ [(s, 2)]) := hid (by
                        rw [kS_some (by rw [HE.out]; exact HN.out), if_neg]
                        rw [yes_f]
                        · simp
                        · intro e; rw [HLast.out] at e; injection e with e; injection e with e1 e2; subst e1; subst e2; simp at hcmp)
                      rw [hcmp] at hneq1
                      clear hcmp
                      go_wp2_with fail
                      try rw [hw4]
                      clear hw4
                      go_quiet (fail)
                      obtain ⟨i0, hi0, hz0, hz1, hz2⟩ := info_parts infoKey
                      have hb1 : (kS l p k).length + 1 ≤ maxLen := by unfold maxLen; omega
                      have hb2 : ((kS l p k).length + 1) * 24 ≤ 140737488355328 := by omega
                      have hb3 : w.heap.size ≤ w4.heap.size + 1 := by have := HB4.out.size; omega
                      have HO5 : Hid ((w4.drewN nq).ownsRow w.heap.size 57 2 (.slice (some ⟨kb, koff, none⟩) (kS l p k).length co) (kS l p k).length (kRow (kS l p k))) := hid HO4.out
                      have HAP : Hid (∀ (v' : Value) (w6 : World), w6.ownsRow w.heap.size 57 2 v' ((kS l p k).length + 1) (kRow (kS l p k) ++ [.string s, .int .i64 2]) → ((w4.drewN nq).alloc (.cells #[.string s, .int .i64 2] 57)).grownBy w6 (Value.slice (some ⟨kb, koff, none⟩) (kS l p k).length co).ownBlock → Below w.heap.size w w6 ∧ w6.heap[w.heap.size]? = some (.cells #[.slice (some ⟨b, off, none⟩) l.length c, .slice x n d] 39 (0, 0)) ∧ w6.ownsRow w.heap.size 57 2 v' (kS l p (k + 1)).length (kRow (kS l p (k + 1)))) := hid (fun v' w6 ho hg => by
                        have hOa := HO5.out.alloc (.cells #[.string s, .int .i64 2] 57)
                        have hxa : ((w4.drewN nq).alloc (.cells #[.string s, .int .i64 2] 57)).heap[w.heap.size]? = some (.cells #[.slice (some ⟨b, off, none⟩) l.length c, .slice x n d] 39 (0, 0)) := (Below.heap_alloc _ _ _ (Array.getElem?_eq_some_iff.1 HX4.out).1).trans HX4.out
                        refine ⟨((below_drewS HB4.out nq).alloc (below_drewS HB4.out nq).size _).grown hg (by simp; exact hb3) (fun j hj => (hOa.lt j hj).1), (hg.block _ (Array.getElem?_eq_some_iff.1 hxa).1 ?_).trans hxa, ?_⟩
                        · rcases ownsRow_ne_a hOa hxa (fun cur e => by injection e with _ e; exact absurd e (by decide)) with e | e
                          · rw [e]; simp
                          · exact fun e' => e e'.symm
                        · rw [HST.out, kRow_snoc, List.length_append]; exact ho)
                      clear HO4 HKS hll
                      go_wp2_with (at_builtin; refine wpList_append_own _ rfl _ _ 31 rfl w.heap.size 57 i0 (.agg #[.string ByteArray.empty, .int .i64 0]) 2 24 Try.underlying31 hi0 hz0 hz1 hz2 rfl (by decide) _ _ _ rfl (HO5.out.alloc _) ⟨w4.heap.size, 0, none⟩ 1 1 [.string s, .int .i64 2] rfl rfl (cell_two_new (w4.drewN nq) _ _ _) (by simp [Value.oneCell']) hb1 hb2 (by simp; exact hb3) ?_; intro v' w6 hown' hgr hnil; obtain ⟨A1, A2, A3⟩ := HAP.out v' w6 hown' hgr; have HA1 := hid A1; have HA2 := hid A2; have HA3 := hid A3; clear hown' hgr hnil A1 A2 A3)
                      go_roundw
                      case rel => exact ⟨k + 1, hlt, by go_num, HA1, HA2, HA3⟩
                      case measure => simp [intOf]; omega
                | false =>
                  have HN : Hid (nx p ⟨lp, false, r, q, v⟩ = some (s, 1)) := hid (by rw [HNx.out, if_neg hlong]; rfl)
                  obtain ⟨w4, hw4⟩ : ∃ w4, w3.alloc (.cells #[.string s, .int .i64 1] 57) = w4 := ⟨_, rfl⟩
                  have b4 : Below w3.heap.size w3 w4 := by rw [← hw4]; exact (Below.refl _ _).alloc (Nat.le_refl _) _
                  have K4 : Bx2 w4 w3.heap.size (.string s) (.int .i64 1) := by rw [← hw4]; exact Bx2.made _ _ _ _
                  have g0 := K4.c0
                  have g1 := K4.c1
                  have HB4 := hid (HB3.out.trans (b4.mono HB3.out.size))
                  have HX4 := hid ((b4.block _ HZ3.out).trans HX3.out)
                  have HO4 := hid (owns_below HO3.out b4 (fun k hk => (HO3.out.lt k hk).2))
                  obtain ⟨ao, co, rfl, hks, hco, hcm⟩ := own_kseg HO4.out
                  have HKS := hid hks
                  have hll : (kS l p k).length ≤ 1048576 := Nat.le_trans (kS_len l p k) (by omega)
                  have m0 := (b4.cell (p := ⟨wr.heap.size, 0, none⟩) HZL.out).trans n0
                  have m1 := (b4.cell (p := ⟨wr.heap.size, 1, none⟩) HZL.out).trans n1
                  have hneq := fun (s' : ByteArray) (k' : Int) w => neqKey s' s k' 1 w
                  have hzl := HZL.out
                  clear b4 K4 hks
                  by_cases hem : (kS l p k).length = 0
                  · have HE0 : Hid (kS l p k = []) := hid (List.eq_nil_of_length_eq_zero hem)
                    have HST : Hid (kS l p (k + 1) = kS l p k ++ [(s, 1)]) := hid (by rw [kS_some (by rw [HE.out]; exact HN.out), if_neg]; rw [HE0.out, yes_f (by simp)]; simp)
                    have dz : (((kS l p k).length : Int) == 0) = true := by simp; exact HE0.out
                    have dz2 : ((kS l p k).length == 0) = true := by simp; exact HE0.out
                    have HEM := hid hem
                    clear hem
                    go_wp2_with fail
                    try rw [hw4]
                    clear hw4
                    go_quiet (fail)
                    obtain ⟨i0, hi0, hz0, hz1, hz2⟩ := info_parts infoKey
                    have hb1 : (kS l p k).length + 1 ≤ maxLen := by unfold maxLen; omega
                    have hb2 : ((kS l p k).length + 1) * 24 ≤ 140737488355328 := by omega
                    have hb3 : w.heap.size ≤ w4.heap.size + 1 := by have := HB4.out.size; omega
                    have HO5 : Hid ((w4.drewN nq).ownsRow w.heap.size 57 2 (.slice ao (kS l p k).length co) (kS l p k).length (kRow (kS l p k))) := hid HO4.out
                    have HAP : Hid (∀ (v' : Value) (w6 : World), w6.ownsRow w.heap.size 57 2 v' ((kS l p k).length + 1) (kRow (kS l p k) ++ [.string s, .int .i64 1]) → ((w4.drewN nq).alloc (.cells #[.string s, .int .i64 1] 57)).grownBy w6 (Value.slice ao (kS l p k).length co).ownBlock → Below w.heap.size w w6 ∧ w6.heap[w.heap.size]? = some (.cells #[.slice (some ⟨b, off, none⟩) l.length c, .slice x n d] 39 (0, 0)) ∧ w6.ownsRow w.heap.size 57 2 v' (kS l p (k + 1)).length (kRow (kS l p (k + 1)))) := hid (fun v' w6 ho hg => by
                      have hOa := HO5.out.alloc (.cells #[.string s, .int .i64 1] 57)
                      have hxa : ((w4.drewN nq).alloc (.cells #[.string s, .int .i64 1] 57)).heap[w.heap.size]? = some (.cells #[.slice (some ⟨b, off, none⟩) l.length c, .slice x n d] 39 (0, 0)) := (Below.heap_alloc _ _ _ (Array.getElem?_eq_some_iff.1 HX4.out).1).trans HX4.out
                      refine ⟨((below_drewS HB4.out nq).alloc (below_drewS HB4.out nq).size _).grown hg (by simp; exact hb3) (fun j hj => (hOa.lt j hj).1), (hg.block _ (Array.getElem?_eq_some_iff.1 hxa).1 ?_).trans hxa, ?_⟩
                      · rcases ownsRow_ne_a hOa hxa (fun cur e => by injection e with _ e; exact absurd e (by decide)) with e | e
                        · rw [e]; simp
                        · exact fun e' => e e'.symm
                      · rw [HST.out, kRow_snoc, List.length_append]; exact ho)
                    clear HO4 HKS hll
                    go_wp2_with (at_builtin; refine wpList_append_own _ rfl _ _ 31 rfl w.heap.size 57 i0 (.agg #[.string ByteArray.empty, .int .i64 0]) 2 24 Try.underlying31 hi0 hz0 hz1 hz2 rfl (by decide) _ _ _ rfl (HO5.out.alloc _) ⟨w4.heap.size, 0, none⟩ 1 1 [.string s, .int .i64 1] rfl rfl (cell_two_new (w4.drewN nq) _ _ _) (by simp [Value.oneCell']) hb1 hb2 (by simp; exact hb3) ?_; intro v' w6 hown' hgr hnil; obtain ⟨A1, A2, A3⟩ := HAP.out v' w6 hown' hgr; have HA1 := hid A1; have HA2 := hid A2; have HA3 := hid A3; clear hown' hgr hnil A1 A2 A3)
                    go_roundw
                    case rel => exact ⟨k + 1, hlt, by go_num, HA1, HA2, HA3⟩
                    case measure => simp [intOf]; omega
                  · have hlp : 0 < (kS l p k).length := by omega
                    obtain ⟨ys, u, hu⟩ : ∃ ys u, kS l p k = ys ++ [u] := ⟨(kS l p k).dropLast, (kS l p k).getLast (fun e => hem (by rw [e]; rfl)), (List.dropLast_concat_getLast _).symm⟩
                    obtain ⟨kb, koff, hao, hkb, hkc⟩ : ∃ b off, ao = some ⟨b, off, none⟩ ∧ b < w4.heap.size ∧ ∀ i, i < (kS l p k).length → w4.cell? ⟨b, off + i * 2, none⟩ = some (.string (gK (kS l p k) i).1) ∧ w4.cell? ⟨b, off + i * 2 + 1, none⟩ = some (.int .i64 (gK (kS l p k) i).2) := by
                      rcases HKS.out with h | h
                      · exact absurd h hem
                      · exact h
                    subst hao
                    obtain ⟨nl, hnl⟩ : ∃ nl, (kS l p k).length = nl + 1 := ⟨(kS l p k).length - 1, by omega⟩
                    obtain ⟨r0, r1⟩ := hkc nl (by omega)
                    have hgu : gK (kS l p k) nl = u := by
                      have : (kS l p k).length = ys.length + 1 := by rw [hu]; simp
                      have e2 : nl = ys.length := by omega
                      rw [hu, e2]; simp [gK, List.getD]
                    rw [hgu] at r0 r1
                    obtain ⟨us, uk⟩ := u
                    dsimp only at r0 r1
                    have HLast : Hid ((kS l p k).getLast? = some (us, uk)) := hid (by rw [hu]; simp)
                    have hw1 : IntKind.i64.wrap (((kS l p k).length : Int) - 1) = (nl : Int) := by rw [IntKind.wrap_i64]; omega
                    have dz : (((kS l p k).length : Int) == 0) = false := by simp; intro e; rw [e] at hem; simp at hem
                    have dz2 : ((kS l p k).length == 0) = false := by simp; intro e; rw [e] at hem; simp at hem
                    have j0 : (0 : Int) ≤ (nl : Int) := Int.natCast_nonneg _
                    have j1 : (nl : Int) < ((kS l p k).length : Int) := by omega
                    have hneq1 := hneq us uk
                    have HNL := hid hnl
                    clear hneq hkc hu hgu hnl
                    cases hcmp : (us.toList == s.toList && uk == 1) with
                    | true =>
                      have HST : Hid (kS l p (k + 1) = kS l p k) := hid (by
                        rw [kS_some (by rw [HE.out]; exact HN.out), if_pos]
                        rw [yes_t]; rw [HLast.out]
                        simp only [Bool.and_eq_true, beq_iff_eq] at hcmp
                        rw [toList_inj hcmp.1, hcmp.2])
                      rw [hcmp] at hneq1
                      clear hcmp
                      go_wp2_with fail
                      try rw [hw4]
                      clear hw4
                      go_quiet (fail)
                      go_wp2_with fail
                      go_roundw
                      case rel => exact ⟨k + 1, hlt, by go_num, hid (below_drewS HB4.out _), HX4, hid (by rw [HST.out]; exact HO4.out)⟩
                      case measure => simp [intOf]; omega
                    | false =>
                      have HST : Hid (kS l p (k + 1) = kS l p k ++ [(s, 1)]) := hid (by
                        rw [kS_some (by rw [HE.out]; exact HN.out), if_neg]
                        rw [yes_f]
                        · simp
                        · intro e; rw [HLast.out] at e; injection e with e; injection e with e1 e2; subst e1; subst e2; simp at hcmp)
                      rw [hcmp] at hneq1
                      clear hcmp
                      go_wp2_with fail
                      try rw [hw4]
                      clear hw4
                      go_quiet (fail)
                      obtain ⟨i0, hi0, hz0, hz1, hz2⟩ := info_parts infoKey
                      have hb1 : (kS l p k).length + 1 ≤ maxLen := by unfold maxLen; omega
                      have hb2 : ((kS l p k).length + 1) * 24 ≤ 140737488355328 := by omega
                      have hb3 : w.heap.size ≤ w4.heap.size + 1 := by have := HB4.out.size; omega
                      have HO5 : Hid ((w4.drewN nq).ownsRow w.heap.size 57 2 (.slice (some ⟨kb, koff, none⟩) (kS l p k).length co) (kS l p k).length (kRow (kS l p k))) := hid HO4.out
                      have HAP : Hid (∀ (v' : Value) (w6 : World), w6.ownsRow w.heap.size 57 2 v' ((kS l p k).length + 1) (kRow (kS l p k) ++ [.string s, .int .i64 1]) → ((w4.drewN nq).alloc (.cells #[.string s, .int .i64 1] 57)).grownBy w6 (Value.slice (some ⟨kb, koff, none⟩) (kS l p k).length co).ownBlock → Below w.heap.size w w6 ∧ w6.heap[w.heap.size]? = some (.cells #[.slice (some ⟨b, off, none⟩) l.length c, .slice x n d] 39 (0, 0)) ∧ w6.ownsRow w.heap.size 57 2 v' (kS l p (k + 1)).length (kRow (kS l p (k + 1)))) := hid (fun v' w6 ho hg => by
                        have hOa := HO5.out.alloc (.cells #[.string s, .int .i64 1] 57)
                        have hxa : ((w4.drewN nq).alloc (.cells #[.string s, .int .i64 1] 57)).heap[w.heap.size]? = some (.cells #[.slice (some ⟨b, off, none⟩) l.length c, .slice x n d] 39 (0, 0)) := (Below.heap_alloc _ _ _ (Array.getElem?_eq_some_iff.1 HX4.out).1).trans HX4.out
                        refine ⟨((below_drewS HB4.out nq).alloc (below_drewS HB4.out nq).size _).grown hg (by simp; exact hb3) (fun j hj => (hOa.lt j hj).1), (hg.block _ (Array.getElem?_eq_some_iff.1 hxa).1 ?_).trans hxa, ?_⟩
                        · rcases ownsRow_ne_a hOa hxa (fun cur e => by injection e with _ e; exact absurd e (by decide)) with e | e
                          · rw [e]; simp
                          · exact fun e' => e e'.symm
                        · rw [HST.out, kRow_snoc, List.length_append]; exact ho)
                      clear HO4 HKS hll
                      go_wp2_with (at_builtin; refine wpList_append_own _ rfl _ _ 31 rfl w.heap.size 57 i0 (.agg #[.string ByteArray.empty, .int .i64 0]) 2 24 Try.underlying31 hi0 hz0 hz1 hz2 rfl (by decide) _ _ _ rfl (HO5.out.alloc _) ⟨w4.heap.size, 0, none⟩ 1 1 [.string s, .int .i64 1] rfl rfl (cell_two_new (w4.drewN nq) _ _ _) (by simp [Value.oneCell']) hb1 hb2 (by simp; exact hb3) ?_; intro v' w6 hown' hgr hnil; obtain ⟨A1, A2, A3⟩ := HAP.out v' w6 hown' hgr; have HA1 := hid A1; have HA2 := hid A2; have HA3 := hid A3; clear hown' hgr hnil A1 A2 A3)
                      go_roundw
                      case rel => exact ⟨k + 1, hlt, by go_num, HA1, HA2, HA3⟩
                      case measure => simp [intOf]; omega
        · obtain rfl : k = l.length := by omega
          go_wp2_with fail
          go_ret2
          exact ⟨⟨_, _, by rw [HKY.out]; rfl, HO.out, by have := kS_len l p l.length; omega, fun _ => rfl, fun hh => absurd (yes_iff.1 HKY.out) hh⟩, HB.out⟩
    · have dp : decide ((0 : Int) < (p.length : Int)) = true := by simp; omega
      have dp2 : decide (0 < p.length) = true := by simp; omega
      have HP := hid (pathSpec p pa p.length w1 hq HS1.out)
      obtain ⟨Z, hZ⟩ : ∃ Z, yes (PthOk p) = Z := ⟨_, rfl⟩
      rw [hZ] at HP
      have HZp := hid hZ
      clear hZ
      go_wp2_with fail
      refine HP.out.mono ?_
      rintro e w2 ⟨rfl, rfl⟩
      clear HP
      cases Z with
      | false =>
        have HF : Hid (¬ KyOk R F T n l p) := hid (fun h => by have := HZp.out; rw [yes_t (h.2.resolve_left hp0)] at this; cases this)
        go_wp2_with fail
        go_ret2
        exact ⟨⟨_, [], by rw [yes_f HF.out]; rfl, HO1.out, by simp, fun h => absurd h HF.out, fun _ => rfl⟩, HB1.out⟩
      | true =>
        have HKY : Hid (yes (KyOk R F T n l p) = true) := hid (yes_t ⟨HOK.out, .inr (yes_iff.1 HZp.out)⟩)
        go_wp2_with fail
        go_loopw [6, 7] (fun o i wr => ∃ k : Nat, k ≤ l.length ∧ i = .int .i64 k ∧ Hid (Below w.heap.size w wr) ∧ Hid (wr.heap[w.heap.size]? = some (.cells #[.slice a l.length c, .slice x n d] 39 (0, 0))) ∧ Hid (wr.ownsRow w.heap.size 57 2 o (kS l p k).length (kRow (kS l p k)))) (fun _ i _ => l.length - (intOf i).toNat)
        case atStart => exact ⟨0, Nat.zero_le _, rfl, HB1, HX1, HO1⟩
        case round =>
          obtain ⟨k, hk, rfl, HB, HX, HO⟩ := hrel
          have k0 : wr.cell? ⟨w.heap.size, 0, none⟩ = some (.slice a l.length c) := by have := HX.out; simp [World.cell?, this]
          have hwlt : w.heap.size < wr.heap.size := (Array.getElem?_eq_some_iff.1 HX.out).1
          by_cases hlt : k < l.length
          · rcases HL.out with h | ⟨b, off, rfl, hb, hc⟩
            · omega
            obtain ⟨qa, qc, ⟨c0, hcap⟩, sg, c1, c2, c3, c4⟩ := hc k hlt
            have x0 := (HB.out.cell (p := ⟨b, off + k * 5, none⟩) hb).trans c0
            have x1 := (HB.out.cell (p := ⟨b, off + k * 5 + 1, none⟩) hb).trans c1
            have x2 := (HB.out.cell (p := ⟨b, off + k * 5 + 2, none⟩) hb).trans c2
            have x3 := (HB.out.cell (p := ⟨b, off + k * 5 + 3, none⟩) hb).trans c3
            have x4 := (HB.out.cell (p := ⟨b, off + k * 5 + 4, none⟩) hb).trans c4
            have i1 : (0 : Int) ≤ (k : Int) := Int.natCast_nonneg _
            have i2 : (k : Int) < (l.length : Int) := by omega
            have HSG := hid (sg.below HB.out)
            have hpk := hp k
            obtain ⟨y, hy⟩ : ∃ y, gL l k = y := ⟨_, rfl⟩
            rw [hy] at x0 x1 x2 x3 x4 HSG hpk hcap
            have HE := hid hy
            obtain ⟨lp, fl, r, q, v⟩ := y
            dsimp only at x0 x1 x2 x3 x4 HSG hpk hcap
            have HCAP := hid hcap
            clear hc c0 c1 c2 c3 c4 sg hy hcap
            obtain ⟨W2, hW2⟩ : ∃ W2, wr.alloc (.cells #[.slice qa lp.length qc, .bool fl, .int .i64 r, .int .i64 q, .string v] 55) = W2 := ⟨_, rfl⟩
            have b2 : Below wr.heap.size wr W2 := by rw [← hW2]; exact (Below.refl _ _).alloc (Nat.le_refl _) _
            have B5 : Bx5 W2 wr.heap.size (.slice qa lp.length qc) (.bool fl) (.int .i64 r) (.int .i64 q) (.string v) := by rw [← hW2]; exact ⟨by simp, by simp, by simp, by simp, by simp, fun i => by simp, by simp⟩
            have HB5 := hid B5
            have y0 := B5.c0
            have HU := hid (underSpec p lp pa qa p.length qc W2 (Nat.le_refl _) HCAP.out.1 (by omega) HCAP.out.2 ((HS.out.below HB.out).below b2) (HSG.out.below b2))
            have HB2 := hid (HB.out.trans (b2.mono HB.out.size))
            have HX2 := hid ((b2.block _ hwlt).trans HX.out)
            have HO2 := hid (owns_below HO.out b2 (fun k hk => (HO.out.lt k hk).2))
            have HSG2 := hid (HSG.out.below b2)
            obtain ⟨U, hU⟩ : ∃ U, yes (p <+: lp) = U := ⟨_, rfl⟩
            rw [hU] at HU
            have HUe := hid hU
            clear b2 B5 hU
            go_wp2_with fail
            try rw [hW2]
            clear hW2
            refine HU.out.mono ?_
            rintro e w3 ⟨rfl, dn, hw3⟩
            have n0 : w3.cell? ⟨wr.heap.size, 0, none⟩ = some (.slice qa lp.length qc) := by rw [hw3]; exact HB5.out.c0
            have n1 : w3.cell? ⟨wr.heap.size, 1, none⟩ = some (.bool fl) := by rw [hw3]; exact HB5.out.c1
            have HZL : Hid (wr.heap.size < w3.heap.size) := hid (by rw [hw3]; exact HB5.out.lt)
            have HB3 : Hid (Below w.heap.size w w3) := hid (by rw [hw3]; exact below_drewS HB2.out _)
            have HX3 : Hid (w3.heap[w.heap.size]? = some (.cells #[.slice (some ⟨b, off, none⟩) l.length c, .slice x n d] 39 (0, 0))) := hid (by rw [hw3]; exact HX2.out)
            have HZ3 : Hid (w.heap.size < w3.heap.size) := hid (Array.getElem?_eq_some_iff.1 HX3.out).1
            have HO3 : Hid (w3.ownsRow w.heap.size 57 2 u6 (kS l p k).length (kRow (kS l p k))) := hid (by rw [hw3]; exact HO2.out)
            have HSG3 : Hid (SSeg w3 qa lp) := hid (by rw [hw3]; exact HSG2.out)
            clear HU hw3 HB2 HX2 HO2 HSG2 HB HX HO HSG HB5 y0 k0 x0 x1 x2 x3 x4 hwlt
            cases U with
            | false =>
              have HN : Hid (nx p (gL l k) = none) := hid (by rw [HE.out]; unfold nx; rw [yes_f (fun h => by have := HUe.out; rw [yes_t h.1] at this; cases this)]; simp)
              go_wp2_with fail
              go_roundw
              case rel => exact ⟨k + 1, hlt, by go_num, HB3, HX3, hid (by rw [kS_none HN.out]; exact HO3.out)⟩
              case measure => simp [intOf]; omega
            | true =>
              have HPre := hid (yes_iff.1 HUe.out)
              have hle := HPre.out.length_le
              by_cases heq : lp.length = p.length
              · have HN : Hid (nx p (gL l k) = none) := hid (by rw [HE.out]; unfold nx; rw [yes_f (fun h => by have := h.2; simp at this; omega)]; simp)
                have de : ((lp.length : Int) == (p.length : Int)) = true := by simp; omega
                have de2 : (lp.length == p.length) = true := by simp; omega
                go_wp2_with fail
                go_roundw
                case rel => exact ⟨k + 1, hlt, by go_num, HB3, HX3, hid (by rw [kS_none HN.out]; exact HO3.out)⟩
                case measure => simp [intOf]; omega
              · have de : ((lp.length : Int) == (p.length : Int)) = false := by simp; omega
                have de2 : (lp.length == p.length) = false := by simp; omega
                have hl2 : p.length < lp.length := by omega
                rcases HSG3.out with h | ⟨qb, qoff, rfl, hqb, hqc⟩
                · omega
                have q0 := hqc p.length hl2
                obtain ⟨s, hs⟩ : ∃ s, gS lp p.length = s := ⟨_, rfl⟩
                rw [hs] at q0
                have HNx : Hid (nx p ⟨lp, fl, r, q, v⟩ = some (s, if p.length + 1 < lp.length then 3 else kd fl)) := hid (by unfold nx; rw [if_pos (yes_t ⟨HPre.out, hl2⟩)]; unfold onWay; simp only []; rw [hs])
                have p0 : (0 : Int) ≤ (p.length : Int) := Int.natCast_nonneg _
                have p1 : (p.length : Int) < (lp.length : Int) := by omega
                clear hqc hs HPre HUe
                by_cases hlong : p.length + 1 < lp.length
                · have dl : decide ((p.length : Int) + 1 < (lp.length : Int)) = true := by simp; omega
                  have dl2 : decide (p.length + 1 < lp.length) = true := by simp; omega
                  have HN : Hid (nx p ⟨lp, fl, r, q, v⟩ = some (s, 3)) := hid (by rw [HNx.out, if_pos hlong])
                  obtain ⟨w4, hw4⟩ : ∃ w4, w3.alloc (.cells #[.string s, .int .i64 3] 57) = w4 := ⟨_, rfl⟩
                  have b4 : Below w3.heap.size w3 w4 := by rw [← hw4]; exact (Below.refl _ _).alloc (Nat.le_refl _) _
                  have K4 : Bx2 w4 w3.heap.size (.string s) (.int .i64 3) := by rw [← hw4]; exact Bx2.made _ _ _ _
                  have g0 := K4.c0
                  have g1 := K4.c1
                  have HB4 := hid (HB3.out.trans (b4.mono HB3.out.size))
                  have HX4 := hid ((b4.block _ HZ3.out).trans HX3.out)
                  have HO4 := hid (owns_below HO3.out b4 (fun k hk => (HO3.out.lt k hk).2))
                  obtain ⟨ao, co, rfl, hks, hco, hcm⟩ := own_kseg HO4.out
                  have HKS := hid hks
                  have hll : (kS l p k).length ≤ 1048576 := Nat.le_trans (kS_len l p k) (by omega)
                  have m0 := (b4.cell (p := ⟨wr.heap.size, 0, none⟩) HZL.out).trans n0
                  have m1 := (b4.cell (p := ⟨wr.heap.size, 1, none⟩) HZL.out).trans n1
                  have hneq := fun (s' : ByteArray) (k' : Int) w => neqKey s' s k' 3 w
                  have hzl := HZL.out
                  clear b4 K4 hks
                  by_cases hem : (kS l p k).length = 0
                  · have HE0 : Hid (kS l p k = []) := hid (List.eq_nil_of_length_eq_zero hem)
                    have HST : Hid (kS l p (k + 1) = kS l p k ++ [(s, 3)]) := hid (by rw [kS_some (by rw [HE.out]; exact HN.out), if_neg]; rw [HE0.out, yes_f (by simp)]; simp)
                    have dz : (((kS l p k).length : Int) == 0) = true := by simp; exact HE0.out
                    have dz2 : ((kS l p k).length == 0) = true := by simp; exact HE0.out
                    have HEM := hid hem
                    clear hem
                    go_wp2_with fail
                    try rw [hw4]
                    clear hw4
                    go_quiet (fail)
                    obtain ⟨i0, hi0, hz0, hz1, hz2⟩ := info_parts infoKey
                    have hb1 : (kS l p k).length + 1 ≤ maxLen := by unfold maxLen; omega
                    have hb2 : ((kS l p k).length + 1) * 24 ≤ 140737488355328 := by omega
                    have hb3 : w.heap.size ≤ w4.heap.size + 1 := by have := HB4.out.size; omega
                    have HO5 : Hid ((w4.drewN nq).ownsRow w.heap.size 57 2 (.slice ao (kS l p k).length co) (kS l p k).length (kRow (kS l p k))) := hid HO4.out
                    have HAP : Hid (∀ (v' : Value) (w6 : World), w6.ownsRow w.heap.size 57 2 v' ((kS l p k).length + 1) (kRow (kS l p k) ++ [.string s, .int .i64 3]) → ((w4.drewN nq).alloc (.cells #[.string s, .int .i64 3] 57)).grownBy w6 (Value.slice ao (kS l p k).length co).ownBlock → Below w.heap.size w w6 ∧ w6.heap[w.heap.size]? = some (.cells #[.slice (some ⟨b, off, none⟩) l.length c, .slice x n d] 39 (0, 0)) ∧ w6.ownsRow w.heap.size 57 2 v' (kS l p (k + 1)).length (kRow (kS l p (k + 1)))) := hid (fun v' w6 ho hg => by
                      have hOa := HO5.out.alloc (.cells #[.string s, .int .i64 3] 57)
                      have hxa : ((w4.drewN nq).alloc (.cells #[.string s, .int .i64 3] 57)).heap[w.heap.size]? = some (.cells #[.slice (some ⟨b, off, none⟩) l.length c, .slice x n d] 39 (0, 0)) := (Below.heap_alloc _ _ _ (Array.getElem?_eq_some_iff.1 HX4.out).1).trans HX4.out
                      refine ⟨((below_drewS HB4.out nq).alloc (below_drewS HB4.out nq).size _).grown hg (by simp; exact hb3) (fun j hj => (hOa.lt j hj).1), (hg.block _ (Array.getElem?_eq_some_iff.1 hxa).1 ?_).trans hxa, ?_⟩
                      · rcases ownsRow_ne_a hOa hxa (fun cur e => by injection e with _ e; exact absurd e (by decide)) with e | e
                        · rw [e]; simp
                        · exact fun e' => e e'.symm
                      · rw [HST.out, kRow_snoc, List.length_append]; exact ho)
                    clear HO4 HKS hll
                    go_wp2_with (at_builtin; refine wpList_append_own _ rfl _ _ 31 rfl w.heap.size 57 i0 (.agg #[.string ByteArray.empty, .int .i64 0]) 2 24 Try.underlying31 hi0 hz0 hz1 hz2 rfl (by decide) _ _ _ rfl (HO5.out.alloc _) ⟨w4.heap.size, 0, none⟩ 1 1 [.string s, .int .i64 3] rfl rfl (cell_two_new (w4.drewN nq) _ _ _) (by simp [Value.oneCell']) hb1 hb2 (by simp; exact hb3) ?_; intro v' w6 hown' hgr hnil; obtain ⟨A1, A2, A3⟩ := HAP.out v' w6 hown' hgr; have HA1 := hid A1; have HA2 := hid A2; have HA3 := hid A3; clear hown' hgr hnil A1 A2 A3)
                    go_roundw
                    case rel => exact ⟨k + 1, hlt, by go_num, HA1, HA2, HA3⟩
                    case measure => simp [intOf]; omega
                  · have hlp : 0 < (kS l p k).length := by omega
                    obtain ⟨ys, u, hu⟩ : ∃ ys u, kS l p k = ys ++ [u] := ⟨(kS l p k).dropLast, (kS l p k).getLast (fun e => hem (by rw [e]; rfl)), (List.dropLast_concat_getLast _).symm⟩
                    obtain ⟨kb, koff, hao, hkb, hkc⟩ : ∃ b off, ao = some ⟨b, off, none⟩ ∧ b < w4.heap.size ∧ ∀ i, i < (kS l p k).length → w4.cell? ⟨b, off + i * 2, none⟩ = some (.string (gK (kS l p k) i).1) ∧ w4.cell? ⟨b, off + i * 2 + 1, none⟩ = some (.int .i64 (gK (kS l p k) i).2) := by
                      rcases HKS.out with h | h
                      · exact absurd h hem
                      · exact h
                    subst hao
                    obtain ⟨nl, hnl⟩ : ∃ nl, (kS l p k).length = nl + 1 := ⟨(kS l p k).length - 1, by omega⟩
                    obtain ⟨r0, r1⟩ := hkc nl (by omega)
                    have hgu : gK (kS l p k) nl = u := by
                      have : (kS l p k).length = ys.length + 1 := by rw [hu]; simp
                      have e2 : nl = ys.length := by omega
                      rw [hu, e2]; simp [gK, List.getD]
                    rw [hgu] at r0 r1
                    obtain ⟨us, uk⟩ := u
                    dsimp only at r0 r1
                    have HLast : Hid ((kS l p k).getLast? = some (us, uk)) := hid (by rw [hu]; simp)
                    have hw1 : IntKind.i64.wrap (((kS l p k).length : Int) - 1) = (nl : Int) := by rw [IntKind.wrap_i64]; omega
                    have dz : (((kS l p k).length : Int) == 0) = false := by simp; intro e; rw [e] at hem; simp at hem
                    have dz2 : ((kS l p k).length == 0) = false := by simp; intro e; rw [e] at hem; simp at hem
                    have j0 : (0 : Int) ≤ (nl : Int) := Int.natCast_nonneg _
                    have j1 : (nl : Int) < ((kS l p k).length : Int) := by omega
                    have hneq1 := hneq us uk
                    have HNL := hid hnl
                    clear hneq hkc hu hgu hnl
                    cases hcmp : (us.toList == s.toList && uk == 3) with
                    | true =>
                      have HST : Hid (kS l p (k + 1) = kS l p k) := hid (by
                        rw [kS_some (by rw [HE.out]; exact HN.out), if_pos]
                        rw [yes_t]; rw [HLast.out]
                        simp only [Bool.and_eq_true, beq_iff_eq] at hcmp
                        rw [toList_inj hcmp.1, hcmp.2])
                      rw [hcmp] at hneq1
                      clear hcmp
                      go_wp2_with fail
                      try rw [hw4]
                      clear hw4
                      go_quiet (fail)
                      go_wp2_with fail
                      go_roundw
                      case rel => exact ⟨k + 1, hlt, by go_num, hid (below_drewS HB4.out _), HX4, hid (by rw [HST.out]; exact HO4.out)⟩
                      case measure => simp [intOf]; omega
                    | false =>
                      have HST : Hid (kS l p (k + 1) = kS l p k ++ [(s, 3)]) := hid (by
                        rw [kS_some (by rw [HE.out]; exact HN.out), if_neg]
                        rw [yes_f]
                        · simp
                        · intro e; rw [HLast.out] at e; injection e with e; injection e with e1 e2; subst e1; subst e2; simp at hcmp)
                      rw [hcmp] at hneq1
                      clear hcmp
                      go_wp2_with fail
                      try rw [hw4]
                      clear hw4
                      go_quiet (fail)
                      obtain ⟨i0, hi0, hz0, hz1, hz2⟩ := info_parts infoKey
                      have hb1 : (kS l p k).length + 1 ≤ maxLen := by unfold maxLen; omega
                      have hb2 : ((kS l p k).length + 1) * 24 ≤ 140737488355328 := by omega
                      have hb3 : w.heap.size ≤ w4.heap.size + 1 := by have := HB4.out.size; omega
                      have HO5 : Hid ((w4.drewN nq).ownsRow w.heap.size 57 2 (.slice (some ⟨kb, koff, none⟩) (kS l p k).length co) (kS l p k).length (kRow (kS l p k))) := hid HO4.out
                      have HAP : Hid (∀ (v' : Value) (w6 : World), w6.ownsRow w.heap.size 57 2 v' ((kS l p k).length + 1) (kRow (kS l p k) ++ [.string s, .int .i64 3]) → ((w4.drewN nq).alloc (.cells #[.string s, .int .i64 3] 57)).grownBy w6 (Value.slice (some ⟨kb, koff, none⟩) (kS l p k).length co).ownBlock → Below w.heap.size w w6 ∧ w6.heap[w.heap.size]? = some (.cells #[.slice (some ⟨b, off, none⟩) l.length c, .slice x n d] 39 (0, 0)) ∧ w6.ownsRow w.heap.size 57 2 v' (kS l p (k + 1)).length (kRow (kS l p (k + 1)))) := hid (fun v' w6 ho hg => by
                        have hOa := HO5.out.alloc (.cells #[.string s, .int .i64 3] 57)
                        have hxa : ((w4.drewN nq).alloc (.cells #[.string s, .int .i64 3] 57)).heap[w.heap.size]? = some (.cells #[.slice (some ⟨b, off, none⟩) l.length c, .slice x n d] 39 (0, 0)) := (Below.heap_alloc _ _ _ (Array.getElem?_eq_some_iff.1 HX4.out).1).trans HX4.out
                        refine ⟨((below_drewS HB4.out nq).alloc (below_drewS HB4.out nq).size _).grown hg (by simp; exact hb3) (fun j hj => (hOa.lt j hj).1), (hg.block _ (Array.getElem?_eq_some_iff.1 hxa).1 ?_).trans hxa, ?_⟩
                        · rcases ownsRow_ne_a hOa hxa (fun cur e => by injection e with _ e; exact absurd e (by decide)) with e | e
                          · rw [e]; simp
                          · exact fun e' => e e'.symm
                        · rw [HST.out, kRow_snoc, List.length_append]; exact ho)
                      clear HO4 HKS hll
                      go_wp2_with (at_builtin; refine wpList_append_own _ rfl _ _ 31 rfl w.heap.size 57 i0 (.agg #[.string ByteArray.empty, .int .i64 0]) 2 24 Try.underlying31 hi0 hz0 hz1 hz2 rfl (by decide) _ _ _ rfl (HO5.out.alloc _) ⟨w4.heap.size, 0, none⟩ 1 1 [.string s, .int .i64 3] rfl rfl (cell_two_new (w4.drewN nq) _ _ _) (by simp [Value.oneCell']) hb1 hb2 (by simp; exact hb3) ?_; intro v' w6 hown' hgr hnil; obtain ⟨A1, A2, A3⟩ := HAP.out v' w6 hown' hgr; have HA1 := hid A1; have HA2 := hid A2; have HA3 := hid A3; clear hown' hgr hnil A1 A2 A3)
                      go_roundw
                      case rel => exact ⟨k + 1, hlt, by go_num, HA1, HA2, HA3⟩
                      case measure => simp [intOf]; omega
                · have dl : decide ((p.length : Int) + 1 < (lp.length : Int)) = false := by simp; omega
                  have dl2 : decide (p.length + 1 < lp.length) = false := by simp; omega
                  cases fl with
                  | true =>
                    have HN : Hid (nx p ⟨lp, true, r, q, v⟩ = some (s, 2)) := hid (by rw [HNx.out, if_neg hlong]; rfl)
                    obtain ⟨w4, hw4⟩ : ∃ w4, w3.alloc (.cells #[.string s, .int .i64 2] 57) = w4 := ⟨_, rfl⟩
                    have b4 : Below w3.heap.size w3 w4 := by rw [← hw4]; exact (Below.refl _ _).alloc (Nat.le_refl _) _
                    have K4 : Bx2 w4 w3.heap.size (.string s) (.int .i64 2) := by rw [← hw4]; exact Bx2.made _ _ _ _
                    have g0 := K4.c0
                    have g1 := K4.c1
                    have HB4 := hid (HB3.out.trans (b4.mono HB3.out.size))
                    have HX4 := hid ((b4.block _ HZ3.out).trans HX3.out)
                    have HO4 := hid (owns_below HO3.out b4 (fun k hk => (HO3.out.lt k hk).2))
                    obtain ⟨ao, co, rfl, hks, hco, hcm⟩ := own_kseg HO4.out
                    have HKS := hid hks
                    have hll : (kS l p k).length ≤ 1048576 := Nat.le_trans (kS_len l p k) (by omega)
                    have m0 := (b4.cell (p := ⟨wr.heap.size, 0, none⟩) HZL.out).trans n0
                    have m1 := (b4.cell (p := ⟨wr.heap.size, 1, none⟩) HZL.out).trans n1
                    have hneq := fun (s' : ByteArray) (k' : Int) w => neqKey s' s k' 2 w
                    have hzl := HZL.out
                    clear b4 K4 hks
                    by_cases hem : (kS l p k).length = 0
                    · have HE0 : Hid (kS l p k = []) := hid (List.eq_nil_of_length_eq_zero hem)
                      have HST : Hid (kS l p (k + 1) = kS l p k ++ [(s, 2)]) := hid (by rw [kS_some (by rw [HE.out]; exact HN.out), if_neg]; rw [HE0.out, yes_f (by simp)]; simp)
                      have dz : (((kS l p k).length : Int) == 0) = true := by simp; exact HE0.out
                      have dz2 : ((kS l p k).length == 0) = true := by simp; exact HE0.out
                      have HEM := hid hem
                      clear hem
                      go_wp2_with fail
                      try rw [hw4]
                      clear hw4
                      go_quiet (fail)
                      obtain ⟨i0, hi0, hz0, hz1, hz2⟩ := info_parts infoKey
                      have hb1 : (kS l p k).length + 1 ≤ maxLen := by unfold maxLen; omega
                      have hb2 : ((kS l p k).length + 1) * 24 ≤ 140737488355328 := by omega
                      have hb3 : w.heap.size ≤ w4.heap.size + 1 := by have := HB4.out.size; omega
                      have HO5 : Hid ((w4.drewN nq).ownsRow w.heap.size 57 2 (.slice ao (kS l p k).length co) (kS l p k).length (kRow (kS l p k))) := hid HO4.out
                      have HAP : Hid (∀ (v' : Value) (w6 : World), w6.ownsRow w.heap.size 57 2 v' ((kS l p k).length + 1) (kRow (kS l p k) ++ [.string s, .int .i64 2]) → ((w4.drewN nq).alloc (.cells #[.string s, .int .i64 2] 57)).grownBy w6 (Value.slice ao (kS l p k).length co).ownBlock → Below w.heap.size w w6 ∧ w6.heap[w.heap.size]? = some (.cells #[.slice (some ⟨b, off, none⟩) l.length c, .slice x n d] 39 (0, 0)) ∧ w6.ownsRow w.heap.size 57 2 v' (kS l p (k + 1)).length (kRow (kS l p (k + 1)))) := hid (fun v' w6 ho hg => by
                        have hOa := HO5.out.alloc (.cells #[.string s, .int .i64 2] 57)
                        have hxa : ((w4.drewN nq).alloc (.cells #[.string s, .int .i64 2] 57)).heap[w.heap.size]? = some (.cells #[.slice (some ⟨b, off, none⟩) l.length c, .slice x n d] 39 (0, 0)) := (Below.heap_alloc _ _ _ (Array.getElem?_eq_some_iff.1 HX4.out).1).trans HX4.out
                        refine ⟨((below_drewS HB4.out nq).alloc (below_drewS HB4.out nq).size _).grown hg (by simp; exact hb3) (fun j hj => (hOa.lt j hj).1), (hg.block _ (Array.getElem?_eq_some_iff.1 hxa).1 ?_).trans hxa, ?_⟩
                        · rcases ownsRow_ne_a hOa hxa (fun cur e => by injection e with _ e; exact absurd e (by decide)) with e | e
                          · rw [e]; simp
                          · exact fun e' => e e'.symm
                        · rw [HST.out, kRow_snoc, List.length_append]; exact ho)
                      clear HO4 HKS hll
                      go_wp2_with (at_builtin; refine wpList_append_own _ rfl _ _ 31 rfl w.heap.size 57 i0 (.agg #[.string ByteArray.empty, .int .i64 0]) 2 24 Try.underlying31 hi0 hz0 hz1 hz2 rfl (by decide) _ _ _ rfl (HO5.out.alloc _) ⟨w4.heap.size, 0, none⟩ 1 1 [.string s, .int .i64 2] rfl rfl (cell_two_new (w4.drewN nq) _ _ _) (by simp [Value.oneCell']) hb1 hb2 (by simp; exact hb3) ?_; intro v' w6 hown' hgr hnil; obtain ⟨A1, A2, A3⟩ := HAP.out v' w6 hown' hgr; have HA1 := hid A1; have HA2 := hid A2; have HA3 := hid A3; clear hown' hgr hnil A1 A2 A3)
                      go_roundw
                      case rel => exact ⟨k + 1, hlt, by go_num, HA1, HA2, HA3⟩
                      case measure => simp [intOf]; omega
                    · have hlp : 0 < (kS l p k).length := by omega
                      obtain ⟨ys, u, hu⟩ : ∃ ys u, kS l p k = ys ++ [u] := ⟨(kS l p k).dropLast, (kS l p k).getLast (fun e => hem (by rw [e]; rfl)), (List.dropLast_concat_getLast _).symm⟩
                      obtain ⟨kb, koff, hao, hkb, hkc⟩ : ∃ b off, ao = some ⟨b, off, none⟩ ∧ b < w4.heap.size ∧ ∀ i, i < (kS l p k).length → w4.cell? ⟨b, off + i * 2, none⟩ = some (.string (gK (kS l p k) i).1) ∧ w4.cell? ⟨b, off + i * 2 + 1, none⟩ = some (.int .i64 (gK (kS l p k) i).2) := by
                        rcases HKS.out with h | h
                        · exact absurd h hem
                        · exact h
                      subst hao
                      obtain ⟨nl, hnl⟩ : ∃ nl, (kS l p k).length = nl + 1 := ⟨(kS l p k).length - 1, by omega⟩
                      obtain ⟨r0, r1⟩ := hkc nl (by omega)
                      have hgu : gK (kS l p k) nl = u := by
                        have : (kS l p k).length = ys.length + 1 := by rw [hu]; simp
                        have e2 : nl = ys.length := by omega
                        rw [hu, e2]; simp [gK, List.getD]
                      rw [hgu] at r0 r1
                      obtain ⟨us, uk⟩ := u
                      dsimp only at r0 r1
                      have HLast : Hid ((kS l p k).getLast? = some (us, uk)) := hid (by rw [hu]; simp)
                      have hw1 : IntKind.i64.wrap (((kS l p k).length : Int) - 1) = (nl : Int) := by rw [IntKind.wrap_i64]; omega
                      have dz : (((kS l p k).length : Int) == 0) = false := by simp; intro e; rw [e] at hem; simp at hem
                      have dz2 : ((kS l p k).length == 0) = false := by simp; intro e; rw [e] at hem; simp at hem
                      have j0 : (0 : Int) ≤ (nl : Int) := Int.natCast_nonneg _
                      have j1 : (nl : Int) < ((kS l p k).length : Int) := by omega
                      have hneq1 := hneq us uk
                      have HNL := hid hnl
                      clear hneq hkc hu hgu hnl
                      cases hcmp : (us.toList == s.toList && uk == 2) with
                      | true =>
                        have HST : Hid (kS l p (k + 1) = kS l p k) := hid (by
                          rw [kS_some (by rw [HE.out]; exact HN.out), if_pos]
                          rw [yes_t]; rw [HLast.out]
                          simp only [Bool.and_eq_true, beq_iff_eq] at hcmp
                          rw [toList_inj hcmp.1, hcmp.2])
                        rw [hcmp] at hneq1
                        clear hcmp
                        go_wp2_with fail
                        try rw [hw4]
                        clear hw4
                        go_quiet (fail)
                        go_wp2_with fail
                        go_roundw
                        case rel => exact ⟨k + 1, hlt, by go_num, hid (below_drewS HB4.out _), HX4, hid (by rw [HST.out]; exact HO4.out)⟩
                        case measure => simp [intOf]; omega
                      | false =>
                        have HST : Hid (kS l p (k + 1) = kS l p k ++ [(s, 2)]) := hid (by
                          rw [kS_some (by rw [HE.out]; exact HN.out), if_neg]
                          rw [yes_f]
                          · simp
                          · intro e; rw [HLast.out] at e; injection e with e; injection e with e1 e2; subst e1; subst e2; simp at hcmp)
                        rw [hcmp] at hneq1
                        clear hcmp
                        go_wp2_with fail
                        try rw [hw4]
                        clear hw4
                        go_quiet (fail)
                        obtain ⟨i0, hi0, hz0, hz1, hz2⟩ := info_parts infoKey
                        have hb1 : (kS l p k).length + 1 ≤ maxLen := by unfold maxLen; omega
                        have hb2 : ((kS l p k).length + 1) * 24 ≤ 140737488355328 := by omega
                        have hb3 : w.heap.size ≤ w4.heap.size + 1 := by have := HB4.out.size; omega
                        have HO5 : Hid ((w4.drewN nq).ownsRow w.heap.size 57 2 (.slice (some ⟨kb, koff, none⟩) (kS l p k).length co) (kS l p k).length (kRow (kS l p k))) := hid HO4.out
                        have HAP : Hid (∀ (v' : Value) (w6 : World), w6.ownsRow w.heap.size 57 2 v' ((kS l p k).length + 1) (kRow (kS l p k) ++ [.string s, .int .i64 2]) → ((w4.drewN nq).alloc (.cells #[.string s, .int .i64 2] 57)).grownBy w6 (Value.slice (some ⟨kb, koff, none⟩) (kS l p k).length co).ownBlock → Below w.heap.size w w6 ∧ w6.heap[w.heap.size]? = some (.cells #[.slice (some ⟨b, off, none⟩) l.length c, .slice x n d] 39 (0, 0)) ∧ w6.ownsRow w.heap.size 57 2 v' (kS l p (k + 1)).length (kRow (kS l p (k + 1)))) := hid (fun v' w6 ho hg => by
                          have hOa := HO5.out.alloc (.cells #[.string s, .int .i64 2] 57)
                          have hxa : ((w4.drewN nq).alloc (.cells #[.string s, .int .i64 2] 57)).heap[w.heap.size]? = some (.cells #[.slice (some ⟨b, off, none⟩) l.length c, .slice x n d] 39 (0, 0)) := (Below.heap_alloc _ _ _ (Array.getElem?_eq_some_iff.1 HX4.out).1).trans HX4.out
                          refine ⟨((below_drewS HB4.out nq).alloc (below_drewS HB4.out nq).size _).grown hg (by simp; exact hb3) (fun j hj => (hOa.lt j hj).1), (hg.block _ (Array.getElem?_eq_some_iff.1 hxa).1 ?_).trans hxa, ?_⟩
                          · rcases ownsRow_ne_a hOa hxa (fun cur e => by injection e with _ e; exact absurd e (by decide)) with e | e
                            · rw [e]; simp
                            · exact fun e' => e e'.symm
                          · rw [HST.out, kRow_snoc, List.length_append]; exact ho)
                        clear HO4 HKS hll
                        go_wp2_with (at_builtin; refine wpList_append_own _ rfl _ _ 31 rfl w.heap.size 57 i0 (.agg #[.string ByteArray.empty, .int .i64 0]) 2 24 Try.underlying31 hi0 hz0 hz1 hz2 rfl (by decide) _ _ _ rfl (HO5.out.alloc _) ⟨w4.heap.size, 0, none⟩ 1 1 [.string s, .int .i64 2] rfl rfl (cell_two_new (w4.drewN nq) _ _ _) (by simp [Value.oneCell']) hb1 hb2 (by simp; exact hb3) ?_; intro v' w6 hown' hgr hnil; obtain ⟨A1, A2, A3⟩ := HAP.out v' w6 hown' hgr; have HA1 := hid A1; have HA2 := hid A2; have HA3 := hid A3; clear hown' hgr hnil A1 A2 A3)
                        go_roundw
                        case rel => exact ⟨k + 1, hlt, by go_num, HA1, HA2, HA3⟩
                        case measure => simp [intOf]; omega
                  | false =>
                    have HN : Hid (nx p ⟨lp, false, r, q, v⟩ = some (s, 1)) := hid (by rw [HNx.out, if_neg hlong]; rfl)
                    obtain ⟨w4, hw4⟩ : ∃ w4, w3.alloc (.cells #[.string s, .int .i64 1] 57) = w4 := ⟨_, rfl⟩
                    have b4 : Below w3.heap.size w3 w4 := by rw [← hw4]; exact (Below.refl _ _).alloc (Nat.le_refl _) _
                    have K4 : Bx2 w4 w3.heap.size (.string s) (.int .i64 1) := by rw [← hw4]; exact Bx2.made _ _ _ _
                    have g0 := K4.c0
                    have g1 := K4.c1
                    have HB4 := hid (HB3.out.trans (b4.mono HB3.out.size))
                    have HX4 := hid ((b4.block _ HZ3.out).trans HX3.out)
                    have HO4 := hid (owns_below HO3.out b4 (fun k hk => (HO3.out.lt k hk).2))
                    obtain ⟨ao, co, rfl, hks, hco, hcm⟩ := own_kseg HO4.out
                    have HKS := hid hks
                    have hll : (kS l p k).length ≤ 1048576 := Nat.le_trans (kS_len l p k) (by omega)
                    have m0 := (b4.cell (p := ⟨wr.heap.size, 0, none⟩) HZL.out).trans n0
                    have m1 := (b4.cell (p := ⟨wr.heap.size, 1, none⟩) HZL.out).trans n1
                    have hneq := fun (s' : ByteArray) (k' : Int) w => neqKey s' s k' 1 w
                    have hzl := HZL.out
                    clear b4 K4 hks
                    by_cases hem : (kS l p k).length = 0
                    · have HE0 : Hid (kS l p k = []) := hid (List.eq_nil_of_length_eq_zero hem)
                      have HST : Hid (kS l p (k + 1) = kS l p k ++ [(s, 1)]) := hid (by rw [kS_some (by rw [HE.out]; exact HN.out), if_neg]; rw [HE0.out, yes_f (by simp)]; simp)
                      have dz : (((kS l p k).length : Int) == 0) = true := by simp; exact HE0.out
                      have dz2 : ((kS l p k).length == 0) = true := by simp; exact HE0.out
                      have HEM := hid hem
                      clear hem
                      go_wp2_with fail
                      try rw [hw4]
                      clear hw4
                      go_quiet (fail)
                      obtain ⟨i0, hi0, hz0, hz1, hz2⟩ := info_parts infoKey
                      have hb1 : (kS l p k).length + 1 ≤ maxLen := by unfold maxLen; omega
                      have hb2 : ((kS l p k).length + 1) * 24 ≤ 140737488355328 := by omega
                      have hb3 : w.heap.size ≤ w4.heap.size + 1 := by have := HB4.out.size; omega
                      have HO5 : Hid ((w4.drewN nq).ownsRow w.heap.size 57 2 (.slice ao (kS l p k).length co) (kS l p k).length (kRow (kS l p k))) := hid HO4.out
                      have HAP : Hid (∀ (v' : Value) (w6 : World), w6.ownsRow w.heap.size 57 2 v' ((kS l p k).length + 1) (kRow (kS l p k) ++ [.string s, .int .i64 1]) → ((w4.drewN nq).alloc (.cells #[.string s, .int .i64 1] 57)).grownBy w6 (Value.slice ao (kS l p k).length co).ownBlock → Below w.heap.size w w6 ∧ w6.heap[w.heap.size]? = some (.cells #[.slice (some ⟨b, off, none⟩) l.length c, .slice x n d] 39 (0, 0)) ∧ w6.ownsRow w.heap.size 57 2 v' (kS l p (k + 1)).length (kRow (kS l p (k + 1)))) := hid (fun v' w6 ho hg => by
                        have hOa := HO5.out.alloc (.cells #[.string s, .int .i64 1] 57)
                        have hxa : ((w4.drewN nq).alloc (.cells #[.string s, .int .i64 1] 57)).heap[w.heap.size]? = some (.cells #[.slice (some ⟨b, off, none⟩) l.length c, .slice x n d] 39 (0, 0)) := (Below.heap_alloc _ _ _ (Array.getElem?_eq_some_iff.1 HX4.out).1).trans HX4.out
                        refine ⟨((below_drewS HB4.out nq).alloc (below_drewS HB4.out nq).size _).grown hg (by simp; exact hb3) (fun j hj => (hOa.lt j hj).1), (hg.block _ (Array.getElem?_eq_some_iff.1 hxa).1 ?_).trans hxa, ?_⟩
                        · rcases ownsRow_ne_a hOa hxa (fun cur e => by injection e with _ e; exact absurd e (by decide)) with e | e
                          · rw [e]; simp
                          · exact fun e' => e e'.symm
                        · rw [HST.out, kRow_snoc, List.length_append]; exact ho)
                      clear HO4 HKS hll
                      go_wp2_with (at_builtin; refine wpList_append_own _ rfl _ _ 31 rfl w.heap.size 57 i0 (.agg #[.string ByteArray.empty, .int .i64 0]) 2 24 Try.underlying31 hi0 hz0 hz1 hz2 rfl (by decide) _ _ _ rfl (HO5.out.alloc _) ⟨w4.heap.size, 0, none⟩ 1 1 [.string s, .int .i64 1] rfl rfl (cell_two_new (w4.drewN nq) _ _ _) (by simp [Value.oneCell']) hb1 hb2 (by simp; exact hb3) ?_; intro v' w6 hown' hgr hnil; obtain ⟨A1, A2, A3⟩ := HAP.out v' w6 hown' hgr; have HA1 := hid A1; have HA2 := hid A2; have HA3 := hid A3; clear hown' hgr hnil A1 A2 A3)
                      go_roundw
                      case rel => exact ⟨k + 1, hlt, by go_num, HA1, HA2, HA3⟩
                      case measure => simp [intOf]; omega
                    · have hlp : 0 < (kS l p k).length := by omega
                      obtain ⟨ys, u, hu⟩ : ∃ ys u, kS l p k = ys ++ [u] := ⟨(kS l p k).dropLast, (kS l p k).getLast (fun e => hem (by rw [e]; rfl)), (List.dropLast_concat_getLast _).symm⟩
                      obtain ⟨kb, koff, hao, hkb, hkc⟩ : ∃ b off, ao = some ⟨b, off, none⟩ ∧ b < w4.heap.size ∧ ∀ i, i < (kS l p k).length → w4.cell? ⟨b, off + i * 2, none⟩ = some (.string (gK (kS l p k) i).1) ∧ w4.cell? ⟨b, off + i * 2 + 1, none⟩ = some (.int .i64 (gK (kS l p k) i).2) := by
                        rcases HKS.out with h | h
                        · exact absurd h hem
                        · exact h
                      subst hao
                      obtain ⟨nl, hnl⟩ : ∃ nl, (kS l p k).length = nl + 1 := ⟨(kS l p k).length - 1, by omega⟩
                      obtain ⟨r0, r1⟩ := hkc nl (by omega)
                      have hgu : gK (kS l p k) nl = u := by
                        have : (kS l p k).length = ys.length + 1 := by rw [hu]; simp
                        have e2 : nl = ys.length := by omega
                        rw [hu, e2]; simp [gK, List.getD]
                      rw [hgu] at r0 r1
                      obtain ⟨us, uk⟩ := u
                      dsimp only at r0 r1
                      have HLast : Hid ((kS l p k).getLast? = some (us, uk)) := hid (by rw [hu]; simp)
                      have hw1 : IntKind.i64.wrap (((kS l p k).length : Int) - 1) = (nl : Int) := by rw [IntKind.wrap_i64]; omega
                      have dz : (((kS l p k).length : Int) == 0) = false := by simp; intro e; rw [e] at hem; simp at hem
                      have dz2 : ((kS l p k).length == 0) = false := by simp; intro e; rw [e] at hem; simp at hem
                      have j0 : (0 : Int) ≤ (nl : Int) := Int.natCast_nonneg _
                      have j1 : (nl : Int) < ((kS l p k).length : Int) := by omega
                      have hneq1 := hneq us uk
                      have HNL := hid hnl
                      clear hneq hkc hu hgu hnl
                      cases hcmp : (us.toList == s.toList && uk == 1) with
                      | true =>
                        have HST : Hid (kS l p (k + 1) = kS l p k) := hid (by
                          rw [kS_some (by rw [HE.out]; exact HN.out), if_pos]
                          rw [yes_t]; rw [HLast.out]
                          simp only [Bool.and_eq_true, beq_iff_eq] at hcmp
                          rw [toList_inj hcmp.1, hcmp.2])
                        rw [hcmp] at hneq1
                        clear hcmp
                        go_wp2_with fail
                        try rw [hw4]
                        clear hw4
                        go_quiet (fail)
                        go_wp2_with fail
                        go_roundw
                        case rel => exact ⟨k + 1, hlt, by go_num, hid (below_drewS HB4.out _), HX4, hid (by rw [HST.out]; exact HO4.out)⟩
                        case measure => simp [intOf]; omega
                      | false =>
                        have HST : Hid (kS l p (k + 1) = kS l p k ++ [(s, 1)]) := hid (by
                          rw [kS_some (by rw [HE.out]; exact HN.out), if_neg]
                          rw [yes_f]
                          · simp
                          · intro e; rw [HLast.out] at e; injection e with e; injection e with e1 e2; subst e1; subst e2; simp at hcmp)
                        rw [hcmp] at hneq1
                        clear hcmp
                        go_wp2_with fail
                        try rw [hw4]
                        clear hw4
                        go_quiet (fail)
                        obtain ⟨i0, hi0, hz0, hz1, hz2⟩ := info_parts infoKey
                        have hb1 : (kS l p k).length + 1 ≤ maxLen := by unfold maxLen; omega
                        have hb2 : ((kS l p k).length + 1) * 24 ≤ 140737488355328 := by omega
                        have hb3 : w.heap.size ≤ w4.heap.size + 1 := by have := HB4.out.size; omega
                        have HO5 : Hid ((w4.drewN nq).ownsRow w.heap.size 57 2 (.slice (some ⟨kb, koff, none⟩) (kS l p k).length co) (kS l p k).length (kRow (kS l p k))) := hid HO4.out
                        have HAP : Hid (∀ (v' : Value) (w6 : World), w6.ownsRow w.heap.size 57 2 v' ((kS l p k).length + 1) (kRow (kS l p k) ++ [.string s, .int .i64 1]) → ((w4.drewN nq).alloc (.cells #[.string s, .int .i64 1] 57)).grownBy w6 (Value.slice (some ⟨kb, koff, none⟩) (kS l p k).length co).ownBlock → Below w.heap.size w w6 ∧ w6.heap[w.heap.size]? = some (.cells #[.slice (some ⟨b, off, none⟩) l.length c, .slice x n d] 39 (0, 0)) ∧ w6.ownsRow w.heap.size 57 2 v' (kS l p (k + 1)).length (kRow (kS l p (k + 1)))) := hid (fun v' w6 ho hg => by
                          have hOa := HO5.out.alloc (.cells #[.string s, .int .i64 1] 57)
                          have hxa : ((w4.drewN nq).alloc (.cells #[.string s, .int .i64 1] 57)).heap[w.heap.size]? = some (.cells #[.slice (some ⟨b, off, none⟩) l.length c, .slice x n d] 39 (0, 0)) := (Below.heap_alloc _ _ _ (Array.getElem?_eq_some_iff.1 HX4.out).1).trans HX4.out
                          refine ⟨((below_drewS HB4.out nq).alloc (below_drewS HB4.out nq).size _).grown hg (by simp; exact hb3) (fun j hj => (hOa.lt j hj).1), (hg.block _ (Array.getElem?_eq_some_iff.1 hxa).1 ?_).trans hxa, ?_⟩
                          · rcases ownsRow_ne_a hOa hxa (fun cur e => by injection e with _ e; exact absurd e (by decide)) with e | e
                            · rw [e]; simp
                            · exact fun e' => e e'.symm
                          · rw [HST.out, kRow_snoc, List.length_append]; exact ho)
                        clear HO4 HKS hll
                        go_wp2_with (at_builtin; refine wpList_append_own _ rfl _ _ 31 rfl w.heap.size 57 i0 (.agg #[.string ByteArray.empty, .int .i64 0]) 2 24 Try.underlying31 hi0 hz0 hz1 hz2 rfl (by decide) _ _ _ rfl (HO5.out.alloc _) ⟨w4.heap.size, 0, none⟩ 1 1 [.string s, .int .i64 1] rfl rfl (cell_two_new (w4.drewN nq) _ _ _) (by simp [Value.oneCell']) hb1 hb2 (by simp; exact hb3) ?_; intro v' w6 hown' hgr hnil; obtain ⟨A1, A2, A3⟩ := HAP.out v' w6 hown' hgr; have HA1 := hid A1; have HA2 := hid A2; have HA3 := hid A3; clear hown' hgr hnil A1 A2 A3)
                        go_roundw
                        case rel => exact ⟨k + 1, hlt, by go_num, HA1, HA2, HA3⟩
                        case measure => simp [intOf]; omega
          · obtain rfl : k = l.length := by omega
            go_wp2_with fail
            go_ret2
            exact ⟨⟨_, _, by rw [HKY.out]; rfl, HO.out, by have := kS_len l p l.length; omega, fun _ => rfl, fun hh => absurd (yes_iff.1 HKY.out) hh⟩, HB.out⟩
end Go.Proofs.Ytdfdhokbgmflfaa
