import Derived.Test.YthkppnmnjboiaaaDoorFy
import Derived.Test.YthkppnmnjboiaaaDoorFi
namespace Go.Proofs.YthkppnmnjboiaaaDoor
open Go.ChangeShapes Go.WideShapes Go.ChangeAt Go.RowKit
set_option linter.unusedVariables false
set_option linter.unusedSimpArgs false
variable {W0 wr w' : World} {cb N p c : Nat} {F : Nat → Int} {R : Nat × Nat × List (Int × List Int)} {a : Option Addr} {fv : Value} {l : List Fx}

set_option maxHeartbeats 400000 in
theorem rdFirstC (aE : Addr) (hn : N ≤ 4194304) (hI : DcI W0 wr cb F N R p a c fv l) (h1 : wr.cell? ⟨cb, 1, none⟩ = some (.int .i64 (p : Int))) (hB : Bts W0 cb a N F) (hE : wr.cell? ⟨0, 0, none⟩ = some (.iface 103 (.pointer (some aE)))) :
    Calls Tryd.prog 17 #[.pointer (some ⟨cb, 0, none⟩)] wr fun e w' => (e = .returned .nilFunc ∧ DcE W0 w' cb N R a c fv l) ∨
      (e = .returned (.func (.func 27) #[] #[]) ∧ DcI W0 w' cb F N R p a c fv l ∧ w'.cell? ⟨cb, 1, none⟩ = some (.int .i64 ((p + 1 : Nat) : Int)) ∧ p < N ∧ F p = 199) := by
  have HC := hid (expectC 27 p 199 1 aE hn hI h1 hB hE)
  have hle := hI.le
  clear hI h1 hE
  go_enter Tryd.func17, Tryd.ntmps17
  go_wp2_with fail
  refine HC.out.mono ?_
  rintro e w1 (⟨hx, rfl, h⟩ | ⟨hx, hne, rfl, w2, h, rfl⟩ | ⟨hx, he, rfl, h, h1⟩)
  · have H := hid (h.stop (firstF_of (by rw [show N - p = 0 by omega]; exact hd_n0 _)))
    clear h
    go_wp2_with fail
    go_ret
    exact .inl ⟨rfl, H.out⟩
  · have H := hid (h.fail (x := 1) (firstF_of (hd_1 (by omega) (by simpa [shF] using hne))))
    clear h hne
    go_wp2_with fail
    go_ret
    exact .inl ⟨rfl, H.out⟩
  · have H := hid (And.intro h h1)
    have HE := hid he
    clear h h1 he
    go_wp2_with fail
    go_ret
    exact .inr ⟨rfl, H.out.1, H.out.2, hx, HE.out⟩

set_option maxHeartbeats 400000 in
theorem rdSecondC (aE : Addr) (hn : N ≤ 4194304) (hI : DcI W0 wr cb F N R p a c fv l) (h1 : wr.cell? ⟨cb, 1, none⟩ = some (.int .i64 ((p + 1 : Nat) : Int))) (hp : p < N) (h0 : F p = 199) (hB : Bts W0 cb a N F) (hE : wr.cell? ⟨0, 0, none⟩ = some (.iface 103 (.pointer (some aE)))) :
    Calls Tryd.prog 27 #[.pointer (some ⟨cb, 0, none⟩)] wr fun e w' => (e = .returned .nilFunc ∧ DcE W0 w' cb N R a c fv l) ∨
      (e = .returned (.func (.func 34) #[] #[]) ∧ DcI W0 w' cb F N R p a c fv l ∧ w'.cell? ⟨cb, 1, none⟩ = some (.int .i64 ((p + 2 : Nat) : Int)) ∧ p + 1 < N ∧ F (p + 1) = 1) := by
  have HC := hid (expectC 34 (p + 1) 1 2 aE hn hI h1 hB hE)
  have hle := hI.le
  have g0 : Hid (shF F p 0 = 199) := hid (by simpa [shF] using h0)
  clear hI h1 hE h0
  go_enter Tryd.func27, Tryd.ntmps27
  go_wp2_with fail
  refine HC.out.mono ?_
  rintro e w1 (⟨hx, rfl, h⟩ | ⟨hx, hne, rfl, w2, h, rfl⟩ | ⟨hx, he, rfl, h, h1⟩)
  · have H := hid (h.stop (firstF_of (by rw [show N - p = 1 by omega]; exact hd_n1 g0.out)))
    clear h
    go_wp2_with fail
    go_ret
    exact .inl ⟨rfl, H.out⟩
  · have H := hid (h.fail (x := 2) (firstF_of (hd_2 (by omega) g0.out (by simpa [shF] using hne))))
    clear h hne
    go_wp2_with fail
    go_ret
    exact .inl ⟨rfl, H.out⟩
  · have H := hid (And.intro h h1)
    have HE := hid he
    clear h h1 he
    go_wp2_with fail
    go_ret
    exact .inr ⟨rfl, H.out.1, H.out.2, hx, HE.out⟩

set_option maxRecDepth 100000 in
set_option maxHeartbeats 1000000 in
theorem rdKindC (aE : Addr) (hn : N ≤ 4194304) (hF : Byt F) (hI : DcI W0 wr cb F N R p a c fv l) (h1 : wr.cell? ⟨cb, 1, none⟩ = some (.int .i64 ((p + 2 : Nat) : Int))) (hp : p + 1 < N) (h0 : F p = 199) (h0' : F (p + 1) = 1) (hB : Bts W0 cb a N F) (hE : wr.cell? ⟨0, 0, none⟩ = some (.iface 103 (.pointer (some aE)))) :
    Calls Tryd.prog 34 #[.pointer (some ⟨cb, 0, none⟩)] wr fun e w' => (e = .returned .nilFunc ∧ DcE W0 w' cb N R a c fv l) ∨
      (e = .returned (.func (.func 37) #[] #[]) ∧ DcI W0 w' cb F N R p a c fv l ∧ w'.cell? ⟨cb, 1, none⟩ = some (.int .i64 ((p + 3 : Nat) : Int)) ∧ w'.cell? ⟨cb, 3, none⟩ = some (.int .i64 (F (p + 2))) ∧ p + 2 < N ∧ 1 ≤ F (p + 2) ∧ F (p + 2) ≤ 3) := by
  have HI := hid hI
  have HC : Hid (Cur wr cb a N c ((p + 2 : Nat) : Int)) := hid ⟨hI.c0, h1, hI.zz 1⟩
  have g0 : Hid (shF F p 0 = 199) := hid (by simpa [shF] using h0)
  have g1 : Hid (shF F p 1 = 1) := hid (by simpa [shF] using h0')
  have hle := hI.le
  clear hI h1 h0 h0'
  by_cases hx : N ≤ p + 2
  · go_enter Tryd.func34, Tryd.ntmps34
    go_wp2_with fail
    refine (next_end cb a N c ((p + 2 : Nat) : Int) aE _ hn HC.out (.inr (by omega)) hE).mono ?_
    rintro e w1 ⟨rfl, b1⟩
    have H := hid ((HI.out.below b1).stop (firstF_of (by rw [show N - p = 2 by omega]; exact hd_n2 g0.out g1.out)))
    clear b1
    go_wp2_with fail
    go_ret
    exact .inl ⟨rfl, H.out⟩
  · have hx' : p + 2 < N := by omega
    rcases hB with h0 | ⟨b, rfl, hb, hc⟩
    · omega
    have HX : Hid (wr.cell? ⟨b, 0 + (p + 2), none⟩ = some (.int .u8 (F (p + 2)))) := hid (by rw [Nat.zero_add]; exact (HI.out.bel.cell (p := ⟨b, p + 2, none⟩) hb).trans (hc (p + 2) hx'))
    have HN := hid (next_ok2 cb b 0 N c (p + 2) (F (p + 2)) wr hn HC.out hx' HX.out)
    have g2 : Hid (shF F p 2 = F (p + 2)) := hid rfl
    have hz0 := (hF (p + 2)).1
    have hz1 := (hF (p + 2)).2
    clear hc hE HX HC
    obtain ⟨z, hz⟩ : ∃ z, F (p + 2) = z := ⟨_, rfl⟩
    rw [hz] at HN g2 hz0 hz1 ⊢
    clear hz
    have ew : IntKind.i64.wrap z = z := by rw [IntKind.wrap_i64]; omega
    have HK := hid (fun w' => kindOkC z w' (by omega) (by omega))
    by_cases hok : 1 ≤ z ∧ z ≤ 3
    · have hd : (decide (1 ≤ z) && decide (z ≤ 3)) = true := by simp; omega
      rw [hd] at HK
      obtain ⟨o1, o3⟩ := hok
      go_enter Tryd.func34, Tryd.ntmps34
      go_wp2_with fail
      refine HN.out.mono ?_
      rintro e w1 ⟨rfl, cu1, gr1, kp1⟩
      have HI1 := hid (HI.out.kp gr1 kp1)
      have HCU := hid cu1.2.1
      clear cu1 gr1 kp1 HN
      go_wp2_with fail
      refine (HK.out _).mono ?_
      rintro e w2 ⟨rfl, rfl⟩
      obtain ⟨u3, k3⟩ := HI1.out.c3
      have z3 := HI1.out.zz 3
      go_wp2_with fail
      go_ret
      exact .inr ⟨rfl, HI1.out.set 3 (.inl rfl) _, (cell_set_ne (by omega)).trans HCU.out, World.cell?_setCell_same _ _ _ k3, hx', o1, o3⟩
    · have hd : (decide (1 ≤ z) && decide (z ≤ 3)) = false := by simp; omega
      rw [hd] at HK
      have HS := hid (firstF_of (hd_3 (g := shF F p) (n := N - p) (by omega) g0.out g1.out (by rw [g2.out]; omega)))
      clear hok
      go_enter Tryd.func34, Tryd.ntmps34
      go_wp2_with fail
      refine HN.out.mono ?_
      rintro e w1 ⟨rfl, cu1, gr1, kp1⟩
      have HI1 := hid (HI.out.kp gr1 kp1)
      clear cu1 gr1 kp1 HN
      go_wp2_with fail
      refine (HK.out _).mono ?_
      rintro e w2 ⟨rfl, rfl⟩
      go_wp2_with fail
      refine (failC cb 3 _ _ HI1.out.c5 (HI1.out.zz 5)).mono ?_
      rintro e w3 ⟨rfl, rfl⟩
      have H := hid (HI1.out.fail (x := 3) HS.out)
      go_wp2_with fail
      go_ret
      exact .inl ⟨rfl, H.out⟩
end Go.Proofs.YthkppnmnjboiaaaDoor
