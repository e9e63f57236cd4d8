import Derived.Test.YtbimcammjohaoadDoorGcM2
namespace Go.Proofs.YtbimcammjohaoadDoor
open Go.ChangeShapes Go.WideShapes Go.ChangeAt Go.RowKit
set_option linter.unusedVariables false
set_option linter.unusedSimpArgs false

noncomputable def rdI (f : Nat → Int) (n : Nat) (x most : Int) : Option (Nat × Nat) := if 0 ≤ x then rd f n x.toNat most else none
theorem rdI_nat (f : Nat → Int) (n p : Nat) (most : Int) : rdI f n (p : Int) most = rd f n p most := by
  unfold rdI; rw [if_pos (by omega)]; simp

theorem uvC (cb B : Nat) (a : Option Addr) (n c : Nat) (x : Int) (f : Nat → Int) (aT aS aL aE : Addr) (w : World) (hn : n ≤ 1048576) (hf : Byt f) (hcur : Cur w cb a n c x) (hs : Seg w a n f) (hab : ∀ y, a = some y → y.block ≠ cb) (hE : Errs w B aT aS aL aE) (hBc : B ≤ cb) :
    Calls Tryd.prog 71 #[.pointer (some ⟨cb, 0, none⟩)] w fun e w' => w.grownBy w' (some cb) ∧
      ((∃ V x' : Nat, V < 18446744073709551616 ∧ (∀ most : Int, rdI f n x most = if (V : Int) ≤ most then some (V, x') else none) ∧ e = .returned (.tuple #[.int .u64 (V : Int), .nilIface]) ∧ Cur w' cb a n c (x' : Int)) ∨
       ((∀ most : Int, rdI f n x most = none) ∧ ∃ (t : TypeId) (v : Value) (y : Int), e = .returned (.tuple #[.int .u64 0, .iface t v]) ∧ Cur w' cb a n c y)) := by
  by_cases hx : x < 0 ∨ (n : Int) ≤ x
  · refine (uvOut cb B a n c x aT aS aL aE w hn hcur hx hE).mono ?_
    rintro e w1 ⟨pb, rfl, hpb, hP, b1⟩
    refine ⟨grown_below (grown_refl w (some cb)) b1, .inr ⟨fun most => ?_, _, _, x, rfl, hcur.below b1 hcur.lt⟩⟩
    unfold rdI
    split
    · rename_i h0
      unfold rd
      rw [gX_out (by omega)]
      simp
    · rfl
  · obtain ⟨p, rfl⟩ : ∃ p : Nat, x = (p : Int) := ⟨x.toNat, by omega⟩
    have hp : p < n := by omega
    rcases hs with h | ⟨b, off, rfl, hb, hc⟩
    · omega
    have hm := cN_spec f n p
    have hbb := gX_bounds (x := (p : Int)) (by simpa using hm) hf hn (by omega) (by omega)
    rw [gX_in hp] at hbb
    refine (uvIn cb B b off n c p (cN f n p) f aT aS aL aE w hn hf hcur hp hm hE hBc (hab _ rfl) hb hc).mono ?_
    rintro e w1 ⟨g1, ⟨h0, rfl, cu⟩ | ⟨h0, pb, rfl, hpb, hP, y, cu⟩⟩
    · refine ⟨g1, .inl ⟨guV f n p (cN f n p), guA f n p (cN f n p), hbb.1, fun most => ?_, rfl, cu⟩⟩
      rw [rdI_nat]
      unfold rd
      rw [gX_in hp, h0]
      simp
    · refine ⟨g1, .inr ⟨fun most => ?_, _, _, y, rfl, cu⟩⟩
      rw [rdI_nat]
      unfold rd
      rw [gX_in hp]
      simp [h0]

set_option maxRecDepth 100000 in
set_option maxHeartbeats 1000000 in
theorem numberC (cb B : Nat) (a : Option Addr) (n c : Nat) (x most : Int) (f : Nat → Int) (aT aS aL aE : Addr) (w : World) (hn : n ≤ 1048576) (hf : Byt f) (hcur : Cur w cb a n c x) (hs : Seg w a n f) (hab : ∀ y, a = some y → y.block ≠ cb) (hE : Errs w B aT aS aL aE) (hBc : B ≤ cb)
    (hm0 : -1000000000000 ≤ most) (hm1 : most ≤ 1000000000000) :
    Calls Tryd.prog 57 #[.pointer (some ⟨cb, 0, none⟩), .int .i64 most] w fun e w' => w.grownBy w' (some cb) ∧
      ((∃ V x' : Nat, rdI f n x most = some (V, x') ∧ (V : Int) ≤ most ∧ e = .returned (.tuple #[.int .i64 (V : Int), .nilIface]) ∧ Cur w' cb a n c (x' : Int)) ∨
       (rdI f n x most = none ∧ ∃ (t : TypeId) (v : Value) (y : Int), e = .returned (.tuple #[.int .i64 0, .iface t v]) ∧ Cur w' cb a n c y)) := by
  have hcl := hcur.lt
  have HU := hid (uvC cb B a n c x f aT aS aL aE w hn hf hcur hs hab hE hBc)
  have HE := hid hE
  clear hE hcur hs hab
  go_enter Tryd.func57, Tryd.ntmps57
  go_wp2_with fail
  refine HU.out.mono ?_
  rintro e w1 ⟨g1, ⟨V, x', hV, hr, rfl, cu⟩ | ⟨hr, t, v, y, rfl, cu⟩⟩
  · have hE1 := HE.out.below ((Below.refl B w).grown g1 (by omega) (fun k hk => by injection hk with hk; omega))
    obtain ⟨vM, hgM⟩ := hE1.gM
    have HG := hid g1
    have HR := hid hr
    have HC := hid cu
    clear g1 hr cu hE1 HU HE
    by_cases h0 : most < 0
    · go_wp2_with fail
      go_quiet (fail)
      go_wp2_with fail
      go_ret2
      exact ⟨grown_trans HG.out (grown_drewN _ _ _), .inr ⟨by rw [HR.out, if_neg (by omega)], _, _, _, rfl, HC.out.below (below_drewN (Below.refl _ _) _) HC.out.lt⟩⟩
    · have e1 : IntKind.u64.wrap most = most := by rw [IntKind.wrap_u64]; omega
      have d0 : decide (most < 0) = false := by simpa using h0
      by_cases h1 : (V : Int) ≤ most
      · have d1 : decide (most < (V : Int)) = false := by simpa using h1
        have e2 : IntKind.i64.wrap (V : Int) = (V : Int) := by rw [IntKind.wrap_i64]; omega
        go_wp2_with fail
        go_ret2
        refine ⟨HG.out, .inl ⟨V, x', by rw [HR.out, if_pos h1], h1, ?_, HC.out⟩⟩
        first | rfl | rw [e2]
      · have d1 : decide (most < (V : Int)) = true := by simp; omega
        go_wp2_with fail
        go_quiet (fail)
        go_wp2_with fail
        go_ret2
        exact ⟨grown_trans HG.out (grown_drewN _ _ _), .inr ⟨by rw [HR.out, if_neg (by omega)], _, _, _, rfl, HC.out.below (below_drewN (Below.refl _ _) _) HC.out.lt⟩⟩
  · have HG := hid g1
    have HR := hid hr
    have HC := hid cu
    clear g1 hr cu HU HE
    go_wp2_with fail
    go_ret2
    exact ⟨HG.out, .inr ⟨HR.out _, _, _, _, rfl, HC.out⟩⟩
end Go.Proofs.YtbimcammjohaoadDoor
