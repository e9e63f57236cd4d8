import Derived.Test.YteehmbcabmifcaaTrg
namespace Go.Proofs.Yteehmbcabmifcaa
open Go.ChangeShapes Go.WideShapes Go.ChangeAt Go.RowKit Go.Maps
set_option linter.unusedVariables false
set_option linter.unusedSimpArgs false

theorem toList_inj {s t : ByteArray} (h : s.toList = t.toList) : s = t := by
  rw [ByteArray.toList_eq, ByteArray.toList_eq] at h
  exact bytes_inj h
theorem less_self : ∀ l : List UInt8, Op.bytesLess l l = false
  | [] => rfl
  | a :: l => by simp [Op.bytesLess, less_self l]
theorem cmpS_z {s t : ByteArray} : cmpS s t = 0 ↔ s = t := by
  unfold cmpS ltS eqS
  constructor
  · intro h
    split at h
    · cases h
    · split at h
      · rename_i e; exact toList_inj (by simpa using e)
      · cases h
  · rintro rfl
    rw [if_neg (by rw [less_self]; simp), if_pos (by simp)]
theorem cmpP_z : ∀ {p q : List ByteArray}, cmpP p q = 0 ↔ p = q
  | [], [] => by simp [cmpP]
  | [], _ :: _ => by simp [cmpP]
  | _ :: _, [] => by simp [cmpP]
  | s :: p, t :: q => by
    simp only [cmpP]
    by_cases e : cmpS s t = 0
    · rw [if_pos e, cmpP_z]
      have := cmpS_z.1 e
      subst this
      simp
    · rw [if_neg e]
      exact ⟨fun h => absurd h e, fun h => by injection h with h1 h2; exact absurd (cmpS_z.2 h1) e⟩

theorem Tre.len {w : World} {B c : Nat} {N : List Ky → Option (Nat × Nat)} {M : List Ky → Dt → Option ByteArray} (h : Tre w B N M c) (p : List Ky) :
    ∃ n : Nat, (∀ ty, (Builtin.len_ #[55] ty #[.map (mS (N p))]).run Try.prog w = .ok (.int .i64 n) w) ∧ (0 < n ↔ ∃ d, M p d ≠ none) := by
  cases e : N p with
  | some x =>
    obtain ⟨n, h1, _, h2⟩ := (h.marks p x e).len dotKeyed Try.underlying55
    exact ⟨n, h1, h2⟩
  | none =>
    refine ⟨0, fun ty => Maps.len_nil Try.underlying55 ty, ?_⟩
    rw [h.none' p e]
    simp

def FlagOn (l : List Lf) (p : List ByteArray) (k : Nat) : Prop := ∃ j, j < k ∧ (gL l j).fl = true ∧ (gL l j).p = p
theorem FlagOn.step {l : List Lf} {p : List ByteArray} {k : Nat} : FlagOn l p (k + 1) ↔ FlagOn l p k ∨ ((gL l k).fl = true ∧ (gL l k).p = p) := by
  constructor
  · rintro ⟨j, hj, r⟩
    by_cases e : j = k
    · subst e; exact .inr r
    · exact .inl ⟨j, by omega, r⟩
  · rintro (⟨j, hj, r⟩ | r)
    · exact ⟨j, by omega, r⟩
    · exact ⟨k, by omega, r⟩
def RfOk (R F T : Nat → Int) (n : Nat) (l : List Lf) (p : List ByteArray) : Prop := StOk R F T n l ∧ PthOk p ∧ FlagOn l p l.length

set_option maxRecDepth 100000 in
set_option maxHeartbeats 1000000 in
theorem specReadFlag (a : Option Addr) (c : Nat) (l : List Lf) (x : Option Addr) (n d : Nat) (R F T : Nat → Int) (p : List ByteArray) (pa : Option Addr) (w : World) (hn : l.length ≤ 1048576) (hp : LBd l) (hm : n ≤ 1048576) (hq : p.length ≤ 1048576) (h : LCap w a l) (h' : RSeg w x n R F T) (hs : SSeg w pa p) :
    Calls Try.prog 6 #[.agg #[.slice a l.length c, .slice x n d], .slice pa p.length p.length] w fun e w' => e = .returned (.bool (yes (RfOk R F T n l p))) ∧ Below w.heap.size w w' := by
  obtain ⟨W, hW⟩ : ∃ W, w.alloc (.cells #[.slice a l.length c, .slice x n d] 37) = W := ⟨_, rfl⟩
  have b0 : Below w.heap.size w W := by rw [← hW]; exact (Below.refl _ _).alloc (Nat.le_refl _) _
  have B0 : Bx2 W w.heap.size (.slice a l.length c) (.slice x n d) := by rw [← hW]; exact Bx2.made _ _ _ _
  have HL := hid (h.below b0)
  have HR := hid (h'.below b0)
  have HS := hid (hs.below b0)
  have HB0 := hid b0
  have HBx := hid B0
  clear h h' hs b0 B0
  go_enter Try.func6, Try.ntmps6
  go_wp2_with fail
  try rw [hW]
  clear hW
  go_loopw [5, 6] (fun o i wr => ∃ k : Nat, k ≤ l.length ∧ i = .int .i64 k ∧ (∃ B, o = .bool B ∧ Hid (B = yes (FlagOn l p k))) ∧ Hid (Below W.heap.size W wr)) (fun _ i _ => l.length - (intOf i).toNat)
  case atStart => exact ⟨0, Nat.zero_le _, rfl, ⟨false, rfl, hid (yes_f (fun ⟨j, hj, _⟩ => by omega)).symm⟩, hid (Below.refl _ _)⟩
  case round =>
    obtain ⟨k, hk, rfl, ⟨O, rfl, HO⟩, HB⟩ := hrel
    have B1 := HBx.out.below HB.out HBx.out.lt
    have k0 := B1.c0
    have k1 := B1.c1
    by_cases hlt : k < l.length
    · cases O with
      | true =>
        have HF := hid (FlagOn.step.2 (.inl (yes_iff.1 HO.out.symm)))
        go_wp2_with fail
        go_roundw
        case rel => exact ⟨k + 1, hlt, by go_num, ⟨true, rfl, hid (yes_t HF.out).symm⟩, HB⟩
        case measure => simp [intOf]; omega
      | false =>
        have HNO : Hid (¬ FlagOn l p k) := hid (fun h => by have := HO.out; rw [yes_t h] at this; cases this)
        rcases HL.out with h | ⟨b, off, rfl, hb, hc⟩
        · omega
        obtain ⟨qa, qc, ⟨c0, hcap⟩, sg, c1, c2, c3, c4⟩ := hc k hlt
        have x0 := (HB.out.cell (p := ⟨b, off + k * 5, none⟩) hb).trans c0
        have x1 := (HB.out.cell (p := ⟨b, off + k * 5 + 1, none⟩) hb).trans c1
        have i1 : (0 : Int) ≤ (k : Int) := Int.natCast_nonneg _
        have i2 : (k : Int) < (l.length : Int) := by omega
        have HSG := hid (sg.below HB.out)
        have hpk := hp k
        obtain ⟨y, hy⟩ : ∃ y, gL l k = y := ⟨_, rfl⟩
        rw [hy] at x0 x1 HSG hpk hcap
        have HE := hid hy
        obtain ⟨lp, fl, r, q, v⟩ := y
        dsimp only at x0 x1 HSG hpk hcap
        have HCAP := hid hcap
        clear hc c0 c1 c2 c3 c4 sg hy hcap
        cases fl with
        | false =>
          have HF : Hid (¬ FlagOn l p (k + 1)) := hid (fun h => (FlagOn.step.1 h).elim HNO.out (fun e => by have := e.1; rw [HE.out] at this; cases this))
          go_wp2_with fail
          go_roundw
          case rel => exact ⟨k + 1, hlt, by go_num, ⟨false, rfl, hid (yes_f HF.out).symm⟩, HB⟩
          case measure => simp [intOf]; omega
        | true =>
          have HF : Hid (FlagOn l p (k + 1) ↔ cmpP lp p = 0) := hid (by
            rw [FlagOn.step, cmpP_z, HE.out]
            exact ⟨fun h => h.elim (fun h => absurd h HNO.out) (fun h => h.2), fun h => .inr ⟨rfl, h⟩⟩)
          have HC := hid (cmpSpec lp p qa pa qc p.length wr HCAP.out.1 (Nat.le_refl _) HCAP.out.2 (by omega) HSG.out (HS.out.below HB.out))
          obtain ⟨C, hC⟩ : ∃ C, cmpP lp p = C := ⟨_, rfl⟩
          rw [hC] at HF HC
          clear hC
          go_wp2_with fail
          refine HC.out.mono ?_
          rintro e w2 ⟨rfl, dn, rfl⟩
          have HB2 := hid (below_drewS HB.out dn)
          clear HC
          by_cases hz : C = 0
          · have d0 : (C == 0) = true := by simpa using hz
            have HG := hid (HF.out.2 hz)
            clear hz HF
            go_wp2_with fail
            go_roundw
            case rel => exact ⟨k + 1, hlt, by go_num, ⟨true, rfl, hid (yes_t HG.out).symm⟩, HB2⟩
            case measure => simp [intOf]; omega
          · have d0 : (C == 0) = false := by simpa using hz
            have HG : Hid (¬ FlagOn l p (k + 1)) := hid (fun h => hz (HF.out.1 h))
            clear hz HF
            go_wp2_with fail
            go_roundw
            case rel => exact ⟨k + 1, hlt, by go_num, ⟨false, rfl, hid (yes_f HG.out).symm⟩, HB2⟩
            case measure => simp [intOf]; omega
    · obtain rfl : k = l.length := by omega
      cases O with
      | false =>
        have HF : Hid (yes (RfOk R F T n l p) = false) := hid (yes_f (fun h => by have := HO.out; rw [yes_t h.2.2] at this; cases this))
        have HZ := hid (keepS HB0.out HB.out)
        go_wp2_with fail
        go_ret
        exact ⟨ret_b HF.out.symm, HZ.out⟩
      | true =>
        have HF := hid (yes_iff.1 HO.out.symm)
        have HSP := hid (specStateOk a c l x n d R F T wr hn hp hm (HL.out.below HB.out) (HR.out.below HB.out))
        obtain ⟨Y, hY⟩ : ∃ Y, yes (StOk R F T n l) = Y := ⟨_, rfl⟩
        have HY := hid hY
        rw [hY] at HSP
        clear hY
        go_wp2_with fail
        refine HSP.out.mono ?_
        rintro e w2 ⟨rfl, b2⟩
        have HB2 := hid (HB.out.trans (b2.mono HB.out.size))
        clear b2 HSP k0 k1
        cases Y with
        | false =>
          have HG : Hid (yes (RfOk R F T n l p) = false) := hid (yes_f (fun h => by have := HY.out; rw [yes_t h.1] at this; cases this))
          have HZ := hid (keepS HB0.out HB2.out)
          go_wp2_with fail
          go_ret
          exact ⟨ret_b HG.out.symm, HZ.out⟩
        | true =>
          have HP := hid (pathSpec p pa p.length w2 hq (HS.out.below HB2.out))
          have HG : Hid (yes (RfOk R F T n l p) = yes (PthOk p)) := hid (by
            by_cases e : PthOk p
            · rw [yes_t e, yes_t ⟨yes_iff.1 HY.out, e, HF.out⟩]
            · rw [yes_f e, yes_f (fun h => e h.2.1)])
          have HZ := hid (keepS HB0.out HB2.out)
          obtain ⟨Z, hZ⟩ : ∃ Z, yes (PthOk p) = Z := ⟨_, rfl⟩
          rw [hZ] at HP HG
          clear hZ
          go_wp2_with fail
          refine HP.out.mono ?_
          rintro e w3 ⟨rfl, rfl⟩
          clear HP
          cases Z <;>
          · go_wp2_with fail
            go_ret
            exact ⟨ret_b HG.out.symm, HZ.out⟩
theorem fieldMarks (u v : Value) (w : World) : (Instr.field 57 (.agg #[u, v]) 1).run Try.prog w = .ok v w := by kernel_rfl
theorem flag_way {l : List Lf} {p : List ByteArray} (hp : PthOk p) : (∃ d, Mk l l.length (wayOf p 2) d ≠ none) ↔ FlagOn l p l.length := by
  constructor
  · rintro ⟨d, hd⟩
    obtain ⟨j, hj, e, _⟩ := Mk_ne.1 hd
    obtain ⟨e1, e2⟩ := wayOf_inj e.symm (by have := hp.1; omega)
    refine ⟨j, hj, ?_, e1.symm⟩
    cases hf : (gL l j).fl with
    | true => rfl
    | false => rw [hf] at e2; cases e2
  · rintro ⟨j, hj, e1, e2⟩
    refine ⟨((gL l j).r, (gL l j).q), Mk_ne.2 ⟨j, hj, ?_, rfl⟩⟩
    unfold Way; rw [e1, e2]; rfl

set_option maxRecDepth 100000 in
set_option maxHeartbeats 1000000 in
theorem implReadFlag (a : Option Addr) (c : Nat) (l : List Lf) (x : Option Addr) (n d : Nat) (R F T : Nat → Int) (p : List ByteArray) (pa : Option Addr) (cp : Nat) (w : World) (hn : l.length ≤ 1048576) (hp : LBd l) (hi : ∀ i, LfI (gL l i)) (hm : n ≤ 1048576) (hq : p.length ≤ 1048576) (h : LSeg w a l) (h' : RSeg w x n R F T) (hs : SSeg w pa p) :
    Calls Try.prog 9 #[.agg #[.slice a l.length c, .slice x n d], .slice pa p.length cp] w fun e w' => e = .returned (.bool (yes (RfOk R F T n l p))) ∧ Below w.heap.size w w' := by
  obtain ⟨W, hW⟩ : ∃ W, w.alloc (.cells #[.slice a l.length c, .slice x n d] 37) = W := ⟨_, rfl⟩
  have b0 : Below w.heap.size w W := by rw [← hW]; exact (Below.refl _ _).alloc (Nat.le_refl _) _
  have B0 : Bx2 W w.heap.size (.slice a l.length c) (.slice x n d) := by rw [← hW]; exact Bx2.made _ _ _ _
  have k0 := B0.c0
  have k1 := B0.c1
  have HL := hid (h.below b0)
  have HR := hid (h'.below b0)
  have HS := hid (hs.below b0)
  have HB0 := hid b0
  clear h h' hs b0 B0
  by_cases hok : StOk R F T n l
  · have HO := hid (openStateK a c l x n d R F T W hn hp hi hm HL.out HR.out hok)
    have HOK := hid hok
    clear hok
    go_enter Try.func9, Try.ntmps9
    go_wp2_with fail
    try rw [hW]
    clear hW
    refine HO.out.mono ?_
    rintro e w1 ⟨⟨x0, bm, D, G, N, B, rfl, hgrp, _, _, _, hT, hN, hI⟩, b1⟩
    obtain ⟨w2, hw2⟩ : ∃ w2, w1.alloc (.cells #[.map (some x0.1), .map (some x0.2), .map (some bm)] 61) = w2 := ⟨_, rfl⟩
    have b2 : Below w1.heap.size w1 w2 := by rw [← hw2]; exact (Below.refl _ _).alloc (Nat.le_refl _) _
    have L2 : Bx3 w2 w1.heap.size (.map (some x0.1)) (.map (some x0.2)) (.map (some bm)) := by rw [← hw2]; exact Bx3.made _ _ _ _ _
    have c0 := L2.c0
    have c1 := L2.c1
    have HT := hid (hT.below b2)
    have HN := hid hN
    have HZ := hid (keepS HB0.out (keepS b1 b2))
    have HP := hid (pathImpl p pa cp w2 hq (HS.out.below (keepS b1 b2)))
    have HS2 := hid (HS.out.below (keepS b1 b2))
    clear b1 b2 L2 hT hN hI hgrp HO k0 k1
    obtain ⟨Z, hZ⟩ : ∃ Z, yes (PthOk p) = Z := ⟨_, rfl⟩
    rw [hZ] at HP
    have HZp := hid hZ
    clear hZ
    go_wp2_with fail
    refine HP.out.mono ?_
    rintro e w3 ⟨rfl, rfl⟩
    clear HP
    cases Z with
    | false =>
      have HG : Hid (yes (RfOk R F T n l p) = false) := hid (yes_f (fun h => by have := HZp.out; rw [yes_t h.2.1] at this; cases this))
      go_wp2_with fail
      go_ret
      exact ⟨ret_b HG.out.symm, HZ.out⟩
    | true =>
      have hpo := yes_iff.1 HZp.out
      have HA := hid (atC p pa cp 2 B (9 * l.length) N (Mk l l.length) w3 hq (fun i => by
        by_cases hi' : i < p.length
        · have := (hpo.2.2 i hi').2; omega
        · rw [gS_far (by omega)]; simp) (by decide) HS2.out HT.out)
      rw [HN.out] at HA
      have HPO := hid hpo
      clear hpo
      obtain ⟨u, hu⟩ : ∃ u, mF (N (wayOf p 2)) = u := ⟨_, rfl⟩
      obtain ⟨v, hv⟩ : ∃ v, mS (N (wayOf p 2)) = v := ⟨_, rfl⟩
      have HLE : Hid (∀ w4, Below w3.heap.size w3 w4 → ∃ m : Nat, (∀ ty, (Builtin.len_ #[55] ty #[.map v]).run Try.prog w4 = .ok (.int .i64 m) w4) ∧ decide (0 < m) = yes (RfOk R F T n l p)) := hid (fun w4 b4 => by
        obtain ⟨m, h1, h2⟩ := (HT.out.below b4).len (wayOf p 2)
        rw [hv] at h1
        refine ⟨m, h1, ?_⟩
        have : 0 < m ↔ RfOk R F T n l p := by
          rw [h2, flag_way HPO.out]
          exact ⟨fun h => ⟨HOK.out, HPO.out, h⟩, fun h => h.2.2⟩
        by_cases e : 0 < m
        · rw [yes_t (this.1 e)]; simpa using e
        · rw [yes_f (fun h => e (this.2 h))]; simpa using e)
      rw [hu, hv] at HA
      dsimp only [mF, mS, Option.map] at HA
      clear hu hv
      go_wp2_with fail
      refine HA.out.mono ?_
      rintro e w4 ⟨rfl, b4⟩
      obtain ⟨m, hm1, hm2⟩ := HLE.out w4 b4
      have HZ4 := hid (keepS HZ.out b4)
      have HM := hid hm2
      have hfd := fieldMarks (.map u) (.map v) w4
      clear b4 HA HLE hm2
      go_wp2_with fail
      go_ret
      exact ⟨ret_b HM.out, HZ4.out⟩
  · have HO := hid (openStateNo a c l x n d R F T W hn hp hi hm HL.out HR.out hok)
    have HG : Hid (yes (RfOk R F T n l p) = false) := hid (yes_f (fun h => hok h.1))
    clear hok
    go_enter Try.func9, Try.ntmps9
    go_wp2_with fail
    try rw [hW]
    clear hW
    refine HO.out.mono ?_
    rintro e w1 ⟨rfl, b1⟩
    have HZ := hid ((keepS HB0.out b1).alloc (keepS HB0.out b1).size (.cells #[.map none, .map none, .map none] 61))
    clear b1 HO k0 k1
    go_wp2_with fail
    go_ret
    exact ⟨ret_b HG.out.symm, HZ.out⟩
end Go.Proofs.Yteehmbcabmifcaa
