import Derived.Test.YtkhicohhahaahaaRrd
namespace Go.Proofs.Ytkhicohhahaahaa
open Go.ChangeShapes Go.WideShapes Go.ChangeAt Go.RowKit
set_option linter.unusedVariables false
set_option linter.unusedSimpArgs false

set_option maxRecDepth 100000 in
set_option maxHeartbeats 4000000 in
theorem specReadReg (a : Option Addr) (c : Nat) (l : List Lf) (x : Option Addr) (n d : Nat) (R F T : Nat → Int) (p : List ByteArray) (pa : Option Addr) (w : World) (hn : l.length ≤ 1048576) (hp : LBd l) (hm : n ≤ 1048576) (hq : p.length ≤ 1048576) (h : LCap w a l) (h' : RSeg w x n R F T) (hs : SSeg w pa p) :
    Calls Try.prog 6 #[.agg #[.slice a l.length c, .slice x n d], .slice pa p.length p.length] w fun e w' => (∃ v ts, e = .returned (.tuple #[v, .bool (yes (RrOk R F T n l p))]) ∧ w'.ownsRow w.heap.size 9 1 v ts.length (sRow ts) ∧ ts.length ≤ 1048576 ∧ (RrOk R F T n l p → OnceOf (rV l p l.length) ts) ∧ (¬ RrOk R F T n l p → ts = [])) ∧ Below w.heap.size w w' := by
  obtain ⟨W0, hW0⟩ : ∃ W0, w.alloc (.cells #[.slice a l.length c, .slice x n d] 38) = W0 := ⟨_, rfl⟩
  obtain ⟨W, hW⟩ : ∃ W, W0.alloc (.cells #[] 9) = W := ⟨_, rfl⟩
  have b0 : Below w.heap.size w W := by rw [← hW, ← hW0]; exact below2 _ _ _
  have z0 : w.heap.size < W0.heap.size := by rw [← hW0]; simp
  have B0 : Bx2 W w.heap.size (.slice a l.length c) (.slice x n d) := by rw [← hW, ← hW0]; exact (Bx2.made _ _ _ _).allocs _
  have O0 : W.ownsRow (w.heap.size + 1) 9 1 (.slice (some ⟨W0.heap.size, 0, none⟩) 0 0) ([] : List ByteArray).length (sRow []) := ⟨rfl, .inr ⟨W0.heap.size, 0, #[], rfl, by omega, by rw [← hW]; exact World.alloc_heap_new _ _, by simp, by unfold maxLen; omega, rfl, rfl⟩⟩
  have HSP := hid (specStateOk a c l x n d R F T W hn hp hm (h.below b0) (h'.below b0))
  have HL := hid h
  have HS := hid hs
  have HB0 := hid b0
  have HBx := hid B0
  have HO0 := hid O0
  have k0 := B0.c0
  have k1 := B0.c1
  obtain ⟨Y, hY⟩ : ∃ Y, yes (StOk R F T n l) = Y := ⟨_, rfl⟩
  have HY := hid hY
  rw [hY] at HSP
  clear h h' hs b0 B0 O0 hY
  go_enter Try.func6, Try.ntmps6
  go_wp2_with fail
  try rw [hW0]
  try rw [hW]
  clear hW hW0
  refine HSP.out.mono ?_
  rintro e w1 ⟨rfl, b1⟩
  have HB1 := hid (keepS HB0.out b1)
  have HO1 := hid (owns_below HO0.out b1 (fun k hk => (HO0.out.lt k hk).2))
  have HS1 := hid (HS.out.below HB1.out)
  have HBx1 := hid (HBx.out.below b1 HBx.out.lt)
  clear b1 HSP k0 k1 HBx HO0
  cases Y with
  | false =>
    have HF : Hid (¬ RrOk R F T n l p) := hid (fun h => by have := HY.out; rw [yes_t h.1] at this; cases this)
    go_wp2_with fail
    go_ret2
    exact ⟨⟨_, [], by rw [yes_f HF.out]; rfl, own_weak HO1.out (Nat.le_succ _), by simp, fun h => absurd h HF.out, fun _ => rfl⟩, HB1.out⟩
  | true =>
    have HOK := hid (yes_iff.1 HY.out)
    have HP := hid (pathSpec p pa p.length w1 hq HS1.out)
    obtain ⟨Z, hZ⟩ : ∃ Z, yes (PthOk p) = Z := ⟨_, rfl⟩
    rw [hZ] at HP
    have HZp := hid hZ
    clear hZ
    go_wp2_with fail
    refine HP.out.mono ?_
    rintro e w2 ⟨rfl, rfl⟩
    clear HP
    cases Z with
    | false =>
      have HF : Hid (¬ RrOk R F T n l p) := hid (fun h => by have := HZp.out; rw [yes_t h.2] at this; cases this)
      go_wp2_with fail
      go_ret2
      exact ⟨⟨_, [], by rw [yes_f HF.out]; rfl, own_weak HO1.out (Nat.le_succ _), by simp, fun h => absurd h HF.out, fun _ => rfl⟩, HB1.out⟩
    | true =>
      have HKY : Hid (RrOk R F T n l p) := hid ⟨HOK.out, yes_iff.1 HZp.out⟩
      go_wp2_with fail
      go_loopw [6, 7] (fun o i wr => ∃ k : Nat, k ≤ l.length ∧ i = .int .i64 k ∧ Hid (Below w.heap.size w wr) ∧ Hid (Below (w.heap.size + 1) w2 wr) ∧ Hid (wr.ownsRow (w.heap.size + 1) 9 1 o (rV l p k).length (sRow (rV l p k)))) (fun _ i _ => l.length - (intOf i).toNat)
      case atStart => exact ⟨0, Nat.zero_le _, rfl, HB1, hid (Below.refl _ _), HO1⟩
      case round =>
        clear HO1
        obtain ⟨k, hk, rfl, HB, HBB, HO⟩ := hrel
        have B1 := HBx1.out.below HBB.out (Nat.lt_succ_self _)
        have k0 := B1.c0
        have k1 := B1.c1
        by_cases hlt : k < l.length
        · rcases HL.out with h | ⟨b, off, rfl, hb, hc⟩
          · omega
          obtain ⟨qa, qc, ⟨c0, hcap⟩, sg, c1, c2, c3, c4⟩ := hc k hlt
          have x0 := (HB.out.cell (p := ⟨b, off + k * 5, none⟩) hb).trans c0
          have x1 := (HB.out.cell (p := ⟨b, off + k * 5 + 1, none⟩) hb).trans c1
          have x4 := (HB.out.cell (p := ⟨b, off + k * 5 + 4, none⟩) hb).trans c4
          have i1 : (0 : Int) ≤ (k : Int) := Int.natCast_nonneg _
          have i2 : (k : Int) < (l.length : Int) := by omega
          have HSG := hid (sg.below HB.out)
          have hpk := hp k
          have HSTEP : Hid (rV l p (k + 1) = if yes ((gL l k).fl = false ∧ (gL l k).p = p) = true then rV l p k ++ [(gL l k).v] else rV l p k) := hid rfl
          obtain ⟨y, hy⟩ : ∃ y, gL l k = y := ⟨_, rfl⟩
          rw [hy] at x0 x1 x4 HSG hpk hcap HSTEP
          obtain ⟨lp, fl, r, q, v⟩ := y
          dsimp only at x0 x1 x4 HSG hpk hcap HSTEP
          have HCAP := hid hcap
          clear hc c0 c1 c2 c3 c4 sg hy hcap B1
          cases fl with
          | true =>
            have HF : Hid (rV l p (k + 1) = rV l p k) := hid (by rw [HSTEP.out, yes_f (fun h => by cases h.1)]; rfl)
            have HO2 : Hid (wr.ownsRow (w.heap.size + 1) 9 1 u6 (rV l p (k + 1)).length (sRow (rV l p (k + 1)))) := by rw [HF.out]; exact HO
            clear HSTEP x4
            go_wp2_with fail
            go_roundw
            case rel => exact ⟨k + 1, hlt, by go_num, HB, HBB, HO2⟩
            case measure => simp [intOf]; omega
          | false =>
            have HC := hid (cmpSpec lp p qa pa qc p.length wr HCAP.out.1 (Nat.le_refl _) HCAP.out.2 (by omega) HSG.out (HS.out.below HB.out))
            have HPZ : Hid (cmpP lp p = 0 ↔ lp = p) := hid cmpP_z
            obtain ⟨C, hC⟩ : ∃ C, cmpP lp p = C := ⟨_, rfl⟩
            rw [hC] at HPZ HC
            clear hC
            go_wp2_with fail
            refine HC.out.mono ?_
            rintro e w3 ⟨rfl, dn, hw3⟩
            have HB2 : Hid (Below w.heap.size w w3) := hid (by rw [hw3]; exact below_drewS HB.out dn)
            have HBB2 : Hid (Below (w.heap.size + 1) w2 w3) := hid (by rw [hw3]; exact below_drewS HBB.out dn)
            have O3 : w3.ownsRow (w.heap.size + 1) 9 1 u6 (rV l p k).length (sRow (rV l p k)) := by rw [hw3]; exact own_atS HO.out (fun g hg => (below_drewS (Below.refl wr.heap.size wr) dn).block g (HO.out.lt g hg).2)
            have HO3 := hid O3
            have y0 : w3.cell? ⟨b, off + k * 5, none⟩ = some (.slice qa lp.length qc) := by rw [hw3]; simpa using x0
            have y4 : w3.cell? ⟨b, off + k * 5 + 4, none⟩ = some (.string v) := by rw [hw3]; simpa using x4
            have m0 : w3.cell? ⟨w.heap.size, 0, none⟩ = some (.slice (some ⟨b, off, none⟩) l.length c) := by rw [hw3]; simpa using k0
            clear HC x0 x1 x4 k0 k1 hw3 O3
            by_cases hz : C = 0
            · have d0 : (C == 0) = true := by simpa using hz
              have HF : Hid (rV l p (k + 1) = rV l p k ++ [v]) := hid (by rw [HSTEP.out, yes_t ⟨by first | rfl | trivial, HPZ.out.1 hz⟩]; rfl)
              obtain ⟨v5, w5, happ, o5, g5, bl5, _⟩ := appS (w.heap.size + 1) (w3.alloc (.cells #[.string v] 9)) u6 (rV l p k) [v] ⟨w3.heap.size, 0, none⟩ 1 (World.ownsRow.alloc HO3.out _) (fun i hi => by (obtain rfl : i = 0 := (by simpa using hi)); simp [Addr.add, gS]) (by have := rV_len l p k; simp; omega) (by have := HBB2.out.size; have := HBx1.out.lt; simp; omega)
              have hz3 : w.heap.size + 1 ≤ w3.heap.size := by have := HBB2.out.size; have := HBx1.out.lt; omega
              have HB5 : Hid (Below w.heap.size w w5) := hid ((HB2.out.alloc (by omega) (.cells #[.string v] 9)).trans (bl5.mono (by omega)))
              have HBB5 : Hid (Below (w.heap.size + 1) w2 w5) := hid ((HBB2.out.alloc hz3 (.cells #[.string v] 9)).trans bl5)
              have HO5 : Hid (w5.ownsRow (w.heap.size + 1) 9 1 v5 (rV l p (k + 1)).length (sRow (rV l p (k + 1)))) := hid (by rw [HF.out]; exact o5)
              simp only [List.length_cons, List.length_nil, Nat.zero_add] at happ
              clear hz HPZ HSTEP HF o5 g5 bl5 hz3
              go_wp2_with (at_builtin; refine wpList_appS rfl _ _ _ rfl happ (by rfl) (by rfl) rfl ?_; clear happ)
              go_roundw
              case rel => exact ⟨k + 1, hlt, by go_num, HB5, HBB5, HO5⟩
              case measure => simp [intOf]; omega
            · have d0 : (C == 0) = false := by simpa using hz
              have HF : Hid (rV l p (k + 1) = rV l p k) := hid (by rw [HSTEP.out, yes_f (fun h => hz (HPZ.out.2 h.2))]; rfl)
              have HO5 : Hid (w3.ownsRow (w.heap.size + 1) 9 1 u6 (rV l p (k + 1)).length (sRow (rV l p (k + 1)))) := by rw [HF.out]; exact HO3
              clear hz HPZ HSTEP
              go_wp2_with fail
              go_roundw
              case rel => exact ⟨k + 1, hlt, by go_num, HB2, HBB2, HO5⟩
              case measure => simp [intOf]; omega
        · obtain rfl : k = l.length := by omega
          obtain ⟨ao, co, rfl, hsg, hco, hcm⟩ := own_sseg HO.out
          have HON := hid (onceC ao co (rV l p l.length) wr (by have := rV_len l p l.length; omega) hsg)
          clear hsg HO
          obtain ⟨m0, hm0⟩ : ∃ m0, (rV l p l.length).length = m0 := ⟨_, rfl⟩
          have HM0 : Hid (m0 ≤ 1048576) := hid (by have := rV_len l p l.length; omega)
          rw [hm0] at HON hco
          simp only [hm0]
          clear hm0
          go_wp2_with fail
          refine HON.out.mono ?_
          rintro e w3 ⟨⟨v, ts, rfl, ho3, hts, htl⟩, b3⟩
          have HZ := hid (HB.out.trans (b3.mono HB.out.size))
          have HO3 := hid (own_weak ho3 (B' := w.heap.size) HB.out.size)
          have HTS : Hid (OnceOf (rV l p l.length) ts ∧ ts.length ≤ 1048576) := hid ⟨hts, by have := HM0.out; omega⟩
          clear b3 ho3 hts htl HON
          go_wp2_with fail
          go_ret2
          exact ⟨⟨_, ts, by rw [yes_t HKY.out]; rfl, HO3.out, HTS.out.2, fun _ => HTS.out.1, fun hh => absurd HKY.out hh⟩, HZ.out⟩
end Go.Proofs.Ytkhicohhahaahaa
