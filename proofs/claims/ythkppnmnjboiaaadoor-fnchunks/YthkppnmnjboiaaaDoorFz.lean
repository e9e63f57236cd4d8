import Derived.Test.YthkppnmnjboiaaaDoorGk
namespace Go.Proofs.YthkppnmnjboiaaaDoor
open Go.ChangeShapes Go.WideShapes Go.ChangeAt Go.RowKit
set_option linter.unusedVariables false
set_option linter.unusedSimpArgs false

def Kp (w w' : World) (cb : Nat) : Prop := (∀ i, i ≠ 1 → w'.cell? ⟨cb, i, none⟩ = w.cell? ⟨cb, i, none⟩) ∧ (∀ i, w'.frozen? ⟨cb, i, none⟩ = w.frozen? ⟨cb, i, none⟩)
theorem Kp.refl (w : World) (cb : Nat) : Kp w w cb := ⟨fun _ _ => rfl, fun _ => rfl⟩
theorem Kp.trans {w w1 w2 : World} {cb : Nat} (h1 : Kp w w1 cb) (h2 : Kp w1 w2 cb) : Kp w w2 cb := ⟨fun i hi => (h2.1 i hi).trans (h1.1 i hi), fun i => (h2.2 i).trans (h1.2 i)⟩
theorem Kp.below {w w1 w2 : World} {B cb : Nat} (h : Kp w w1 cb) (hb : Below B w1 w2) (hB : cb < B) : Kp w w2 cb :=
  h.trans ⟨fun i _ => hb.cell (p := ⟨cb, i, none⟩) hB, fun i => hb.frozen (p := ⟨cb, i, none⟩) hB⟩
theorem kp_drewN (w : World) (n cb : Nat) : Kp w (w.drewN n) cb := ⟨fun _ _ => rfl, fun _ => rfl⟩
theorem Kp.set {w w1 : World} {cb : Nat} (h : Kp w w1 cb) (v : Value) : Kp w (w1.setCell ⟨cb, 1, none⟩ v) cb := by
  refine h.trans ⟨fun i hi => ?_, fun i => World.frozen?_setCell _ _ _ _⟩
  exact World.cell?_setCell_other _ _ _ _ (by intro e; injection e with _ e; omega)

set_option maxRecDepth 100000 in
set_option maxHeartbeats 1000000 in
theorem next_ok2 (cb b off n c p : Nat) (z : Int) (w : World) (hn : n ≤ 4194304) (hcur : Cur w cb (some ⟨b, off, none⟩) n c (p : Int)) (hp : p < n) (hc : w.cell? ⟨b, off + p, none⟩ = some (.int .u8 z)) :
    Calls Tryd.prog 32 #[.pointer (some ⟨cb, 0, none⟩)] w fun e w' => e = .returned (.tuple #[.int .u8 z, .nilIface]) ∧ Cur w' cb (some ⟨b, off, none⟩) n c ((p + 1 : Nat) : Int) ∧ w.grownBy w' (some cb) ∧ Kp w w' cb := by
  have HC := hid hcur
  obtain ⟨k0, k1, k2⟩ := hcur
  have hd : decide ((p : Int) < 0) = false := by simp
  have h1 : decide ((n : Int) ≤ (p : Int)) = false := by simp; omega
  have hp0 : (0 : Int) ≤ (p : Int) := Int.natCast_nonneg _
  have hpn : (p : Int) < (n : Int) := by omega
  go_enter Tryd.func32, Tryd.ntmps32
  go_wp2_with fail
  go_quiet (fail)
  go_wp2_with fail
  go_quiet (fail)
  go_wp2_with fail
  go_ret2
  refine ⟨rfl, ?_, ?_, ?_⟩
  · first | exact HC.out.set _ | (simp; exact HC.out.set _)
  · first | exact grown_set (grown_drewN _ _ _) _ | (simp; exact grown_set (grown_drewN _ _ _) _)
  · first | exact Kp.set (kp_drewN _ _ _) _ | (simp; exact Kp.set (kp_drewN _ _ _) _)

set_option maxRecDepth 100000 in
set_option maxHeartbeats 2000000 in
theorem uvIn2 (cb B b off n c p m : Nat) (f : Nat → Int) (aT aS aL aE : Addr) (w : World) (hn : n ≤ 4194304) (hf : Byt f) (hcur : Cur w cb (some ⟨b, off, none⟩) n c (p : Int)) (hp : p < n) (hm : Cnt f n p m) (hE : Errs w B aT aS aL aE) (hBc : B ≤ cb) (hbc : b ≠ cb) (hb : b < w.heap.size)
    (hc : ∀ i, i < n → w.cell? ⟨b, off + i, none⟩ = some (.int .u8 (f i))) :
    Calls Tryd.prog 38 #[.pointer (some ⟨cb, 0, none⟩)] w fun e w' => w.grownBy w' (some cb) ∧ Kp w w' cb ∧ ((guC f n p m = 0 ∧ e = .returned (.tuple #[.int .u64 (guV f n p m : Int), .nilIface]) ∧ Cur w' cb (some ⟨b, off, none⟩) n c (guA f n p m : Int)) ∨
      (guC f n p m ≠ 0 ∧ ∃ pb, e = .returned (.tuple #[.int .u64 0, .iface 82 (.pointer (some ⟨pb, 0, none⟩))]) ∧ w.heap.size ≤ pb ∧ Plc w' pb (p : Int) (.iface 103 (.pointer (some (adr aT aS aE (guC f n p m))))) ∧ ∃ x, Cur w' cb (some ⟨b, off, none⟩) n c x)) := by
  have HC := hid hcur
  have HE := hid hE
  have HCn := hid hm
  have HCC := hid hc
  have hm9 := hm.1
  have hcl := hcur.lt
  have hBw : B ≤ w.heap.size := by omega
  obtain ⟨k0, k1, k2⟩ := hcur
  clear hE hm hc
  go_enter Tryd.func38, Tryd.ntmps38
  go_wp2_with fail
  go_loopw [5, 6] (fun v i wr => ∃ (j x : Nat), j ≤ m ∧ Hid (x = sumF f p j) ∧ i = .int .i64 (j : Int) ∧ v = .int .u64 (x : Int) ∧ Hid (Cur wr cb (some ⟨b, off, none⟩) n c ((p + j : Nat) : Int)) ∧ Hid (w.grownBy wr (some cb)) ∧ Hid (Kp w wr cb)) (fun _ i _ => m - (intOf i).toNat)
  case atStart => exact ⟨0, 0, Nat.zero_le _, hid rfl, rfl, rfl, HC, hid (grown_refl _ _), hid (Kp.refl _ _)⟩
  case round =>
    clear k0 k1 k2
    obtain ⟨j, x, hj, hx, rfl, rfl, hcu, hgr, hkp⟩ := hrel
    have hBB := hid ((Below.refl B w).grown hgr.out hBw (fun k hk => by injection hk with hk; omega))
    have hEr := hid (HE.out.below hBB.out)
    by_cases hpj : p + j < n
    · obtain ⟨z, hz⟩ : ∃ z : Nat, f (p + j) = (z : Int) := ⟨(f (p + j)).toNat, by have := (hf (p + j)).1; omega⟩
      have hz8 : z < 256 := by have := (hf (p + j)).2; omega
      have hcz : Hid (wr.cell? ⟨b, off + (p + j), none⟩ = some (.int .u8 (z : Int))) := by
        show _ = _
        rw [World.cell?_of_block (hgr.out.block b hb (by simp; omega)), HCC.out _ hpj, hz]
      have HZ := hid hz
      clear hz
      go_wp2_with fail
      refine (next_ok2 cb b off n c (p + j) (z : Int) _ hn hcu.out hpj hcz.out).mono ?_
      rintro e w1 ⟨rfl, cu1, g1, kp1⟩
      have hcu1 := hid cu1
      have hgr1 := hid (grown_trans hgr.out g1)
      have hkp1 := hid (hkp.out.trans kp1)
      clear cu1 g1 kp1
      by_cases hlt : j < m
      · have hz128 : 128 ≤ z := by have := (HCn.out.2.1 j hlt).2; rw [HZ.out] at this; omega
        have hj8 : j ≤ 8 := by omega
        go_wp2_with fail
        refine (vb_ok z j _ hz8 (by omega) (by omega) (by omega)).mono ?_
        rintro e w2 ⟨rfl, rfl⟩
        have hstep := hid (shl_step x z j hz8 (by rw [hx.out]; exact sumF_lt hf p j) (by
          have h1 := sumF_lt hf p (j + 1)
          rw [sumF_step HZ.out, ← hx.out] at h1
          have h2 := pow9 (k := j + 1) (by omega)
          omega))
        go_wp2_with fail
        refine ⟨⟨j + 1, x + z % 128 * 128 ^ j, hlt, hid (by rw [sumF_step HZ.out, hx.out]), by go_num, by rw [hstep.out], ?_, hgr1, hkp1⟩, by simp [intOf]; omega⟩
        have e : p + j + 1 = p + (j + 1) := by omega
        rw [← e]; exact hcu1
      · obtain rfl : j = m := by omega
        by_cases hc2 : 9 ≤ j ∧ 1 < z
        · have hC2 : Hid (guC f n p j = 2) := by show _ = _; unfold guC; rw [if_neg (by omega), if_pos ⟨by omega, by rw [HZ.out]; omega⟩]
          obtain ⟨h9, hz1⟩ := hc2
          have hE1 := hid (HE.out.below ((Below.refl B w).grown hgr1.out hBw (fun k hk => by injection hk with hk; omega)))
          go_wp2_with fail
          refine (vb_tenth z j aT _ hz8 hz1 h9 hm9 hE1.out.gT).mono ?_
          rintro e w2 ⟨rfl, rfl⟩
          go_wp2_with fail
          go_ret2
          refine ⟨grown_below hgr1.out ((Below.refl _ _).alloc (Nat.le_refl _) _), hkp1.out.below ((Below.refl _ _).alloc (Nat.le_refl _) _) hcu1.out.lt, .inr ⟨by rw [hC2.out]; omega, _, rfl, hgr1.out.size, ⟨by simp, by rw [hC2.out]; simp [adr], by simp⟩, _, hcu1.out.below ((Below.refl _ _).alloc (Nat.le_refl _) _) hcu1.out.lt⟩⟩
        by_cases hc3 : 0 < j ∧ z ≤ 0
        · have hC2 : Hid (guC f n p j = 3) := by show _ = _; unfold guC; rw [if_neg (by omega), if_neg (by rw [HZ.out]; omega), if_pos ⟨by omega, by rw [HZ.out]; omega⟩]
          obtain ⟨h0, hz0⟩ := hc3
          have hE1 := hid (HE.out.below ((Below.refl B w).grown hgr1.out hBw (fun k hk => by injection hk with hk; omega)))
          go_wp2_with fail
          refine (vb_short z j aS _ hz0 h0 hm9 hE1.out.gS).mono ?_
          rintro e w2 ⟨rfl, rfl⟩
          go_wp2_with fail
          go_ret2
          refine ⟨grown_below hgr1.out ((Below.refl _ _).alloc (Nat.le_refl _) _), hkp1.out.below ((Below.refl _ _).alloc (Nat.le_refl _) _) hcu1.out.lt, .inr ⟨by rw [hC2.out]; omega, _, rfl, hgr1.out.size, ⟨by simp, by rw [hC2.out]; simp [adr], by simp⟩, _, hcu1.out.below ((Below.refl _ _).alloc (Nat.le_refl _) _) hcu1.out.lt⟩⟩
        have hC0 : Hid (guC f n p j = 0) := by show _ = _; unfold guC; rw [if_neg (by omega), if_neg (by rw [HZ.out]; omega), if_neg (by rw [HZ.out]; omega)]
        have hV : Hid (guV f n p j = x + z % 128 * 128 ^ j) := by show _ = _; unfold guV; rw [if_pos hC0.out, sumF_step HZ.out, hx.out]
        have hA : Hid (guA f n p j = p + j + 1) := by show _ = _; unfold guA; rw [if_pos hC0.out]
        have hz128 : z < 128 := by
          by_cases h9 : 9 ≤ j
          · omega
          · have := HCn.out.2.2 hpj (by omega); rw [HZ.out] at this; omega
        have hstep := hid (shl_step x z j hz8 (by rw [hx.out]; exact sumF_lt hf p j) (by
          have h1 := sumF_64 hf p j (by omega) (fun h => by rw [HZ.out]; omega) (j + 1) (by omega)
          rw [sumF_step HZ.out, ← hx.out] at h1
          exact h1))
        go_wp2_with fail
        refine (vb_ok z j _ hz8 (by omega) (by omega) (by omega)).mono ?_
        rintro e w2 ⟨rfl, rfl⟩
        go_wp2_with fail
        go_ret2
        refine ⟨hgr1.out, hkp1.out, .inl ⟨hC0.out, ?_, by rw [hA.out]; exact hcu1.out⟩⟩
        rw [hV.out, ← hstep.out]
        rfl
    · obtain rfl : j = m := by
        rcases Nat.lt_or_ge j m with h | h
        · exact absurd (HCn.out.2.1 j h).1 hpj
        · omega
      have hC2 : Hid (guC f n p j = 1) := by show _ = _; unfold guC; rw [if_pos (by omega)]
      go_wp2_with fail
      refine (next_end cb _ n c ((p + j : Nat) : Int) aE _ hn hcu.out (.inr (by omega)) hEr.out.gE).mono ?_
      rintro e w1 ⟨rfl, b1⟩
      have hgr1 := hid (grown_below hgr.out b1)
      have hcu1 := hid (hcu.out.below b1 hcu.out.lt)
      have hkp1 := hid (hkp.out.below b1 hcu.out.lt)
      clear b1
      go_wp2_with fail
      go_ret2
      refine ⟨grown_below hgr1.out ((Below.refl _ _).alloc (Nat.le_refl _) _), hkp1.out.below ((Below.refl _ _).alloc (Nat.le_refl _) _) hcu1.out.lt, .inr ⟨by rw [hC2.out]; omega, _, rfl, hgr1.out.size, ⟨by simp, by rw [hC2.out]; simp [adr], by simp⟩, _, hcu1.out.below ((Below.refl _ _).alloc (Nat.le_refl _) _) hcu1.out.lt⟩⟩
end Go.Proofs.YthkppnmnjboiaaaDoor
