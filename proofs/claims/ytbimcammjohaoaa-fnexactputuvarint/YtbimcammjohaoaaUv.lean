import Derived.Test.YtbimcammjohaoaaRows
import Derived.Test.YtbimcammjohaoaaByt
import Derived.Test.YtbimcammjohaoaaWu
import Derived.Test.YtbimcammjohaoaaWv
import Derived.WalkKit
import Derived.ProofKit
import Derived.OpenShut
import Derived.ShutString
import Derived.Below
namespace Go.Proofs.Ytbimcammjohaoaa.fnExactPutUvarint
open Go.ChangeShapes Go.WideShapes Go.ChangeAt Go.RowKit
open Go.ChangeMaps (open_string shut_string)
set_option linter.unusedVariables false

theorem own : ownKnob Try.prog.godebug = none := by kernel_rfl

set_option maxRecDepth 100000 in
set_option maxHeartbeats 400000 in
theorem walk0 (m : Nat) (hm : m < 18446744073709551616) (w : World) :
    Calls Try.prog 4 #[.int .u64 (m : Int)] w fun e w' => e = .returned (.bool true) ∧ Below w.heap.size w w' := by
  have hlen := uvF_len 9 m
  have hne : uvF 9 m ≠ [] := by intro e; rw [e] at hlen; simp at hlen
  have HBy := hid (bytesOf (uvF_byte 9 m (by omega)))
  go_enter Try.func4, Try.ntmps4
  go_wp2_with fail
  refine (specUv 9 m _ (Nat.le_refl _) (hid (by omega)) hm).mono ?_
  rintro e w1 ⟨v1, rfl, o1, b1, z1⟩
  obtain ⟨g1, c1, rfl, hg1, hg1', hn1, hm1, _, s1⟩ := o1.shape hne
  go_wp2_with fail
  refine (implUv m _ hm).mono ?_
  rintro e w2 ⟨v2, rfl, o2, b2, z2⟩
  obtain ⟨g2, c2, rfl, hg2, hg2', hn2, hm2, _, s2⟩ := o2.shape hne
  go_wp2_with fail
  refine (eqByteS _ _ _ _ _ _ _ (by omega) HBy.out s2 (s1.below b2)).mono ?_
  rintro e w3 ⟨rfl, b3⟩
  have y2 := b2.size
  have y3 := b3.size
  have o3 : Own w3 w1.heap.size _ _ := o2.kept b3 (fun k hk => by simp [Value.ownBlock] at hk; omega)
  have s13 := (s1.below b2).below b3
  go_wp2_with fail
  refine (markB w1.heap.size g2 (uvF 9 m).length c2 1 _ _ (by omega) (by omega) o3).mono ?_
  rintro e w4 ⟨rfl, b4, z4, s4, hoth⟩
  have s14 := s13.kept b4 (by omega) (fun x hx => by simp at hx; subst hx; exact hg1')
  go_wp2_with fail
  refine (heldB _ _ _ 1 _ (by omega) (by omega) s4).mono ?_
  rintro e w4' ⟨rfl, rfl⟩
  go_wp2_with fail
  refine (implUv m _ hm).mono ?_
  rintro e w5 ⟨v5, rfl, o5, b5, z5⟩
  obtain ⟨g5, c5, rfl, hg5, hg5', hn5, hm5, _, s5⟩ := o5.shape hne
  go_wp2_with fail
  refine (eqByteS _ _ _ _ _ _ _ (by omega) HBy.out s5 (s14.below b5)).mono ?_
  rintro e w6 ⟨rfl, b6⟩
  have y4 := b4.size
  have y5 := b5.size
  go_wp2_with fail
  go_ret
  exact ⟨rfl, ((((b1.trans (b2.mono (by omega))).trans (b3.mono (by omega))).trans (b4.mono (by omega))).trans (b5.mono (by omega))).trans (b6.mono (by omega))⟩

theorem walk (a0 : Int) (w0 : (Lit.int .u64 a0).wf = true) (w : World) :
    Calls Try.prog 4 #[.int .u64 a0] w fun e w' => e = .returned (.bool true) ∧ Below w.heap.size w w' := by
  have b := bounds_u64 w0
  obtain ⟨m, rfl⟩ := Int.eq_ofNat_of_zero_le b.1
  exact walk0 m (by omega) w

set_option maxRecDepth 100000 in
theorem lifted (os : Os) (started : os.Started) (H : Type) (enc : TypeId × Value → H) :
    ReturnsInHanded {} Try.checked os 4 .any (Rows.fnExactPutUvarintSpec.pre6 enc Try.prog Try.f4 Rows.fnExactPutUvarintRow.domain false) (Rows.fnExactPutUvarintSpec.post enc Try.prog Try.f4 false true false false) := by
  refine returnsInHanded_of_change (C := Try.checked) own started (by kernel_rfl) Try.func4
    (ChangeSpec.witness6 (enc := enc) (C := Try.checked) false ⟨#[], #[.int .u64 0], []⟩ 8 (by kernel_rfl) (by kernel_rfl) (by kernel_rfl) (by kernel_rfl)) ?_
  intro W base args ds gs before hval0 hW hcnd _
  have hval : ∀ (j : Nat) t v, Try.f4.params[j]? = some t → args[j]? = some v → Value.okWide Try.prog W .any base t v := hval0
  have hW' := hW
  obtain ⟨p, q, hA0, hV, rfl, hfz, hnd⟩ := hW
  have hA : DataW.TrodAll enc Try.prog W 0 (fun _ => true) true Try.f4.params.toList args.toList ds p := hA0
  rw [Try.params4] at hA hval
  obtain ⟨v0, vs0, d0, ds0, p0, q0, hargs, rfl, rfl, h0, r0⟩ := trodAll_cons hA
  obtain ⟨rfl, rfl, rfl⟩ := trodAll_nil r0
  obtain rfl : args = #[v0] := by cases args; simp_all
  obtain ⟨rfl, rfl⟩ := trodVars_none hV
  obtain ⟨a0, rfl, rfl, rfl, w0⟩ := open_int Try.underlying23 (hval 0 23 v0 rfl rfl) h0
  clear hA0 hval0
  refine (walk a0 w0 W).mono fun e W' ⟨he, bel⟩ => ?_
  subst he
  exact ⟨_, rfl, _, _, _, [], _, [], hW', (trodAll_cons_mk (shut_bool Try.underlying4 _) trodAll_mk0), (trodAll_cons_mk (shut_int Try.underlying23 w0) trodAll_mk0), rfl, bel.frame _, fun h => by cases h⟩

theorem over : Rows.fnExactPutUvarintRow.holds Try.pinned (OpenSpec.ofChange Rows.fnExactPutUvarintSpec) :=
  OpenClaim.holds_of_wide 4 Try.f4 rfl rfl rfl rfl rfl rfl rfl ⟨rfl, rfl, rfl, rfl, rfl⟩ rfl rfl rfl rfl rfl (by kernel_rfl) Try.func4 (by kernel_rfl)
    (of_decide_eq_true (by kernel_rfl)) (by unfold Func.isWrapper; first | (rw [if_pos (by decide +kernel)]; kernel_rfl) | (rw [if_neg (by decide +kernel)]; exact ⟨rfl, rfl⟩))
    (fun os started H enc _ => lifted os started H enc)

theorem proved : Rows.FnExactPutUvarintSaid :=
  over
end Go.Proofs.Ytbimcammjohaoaa.fnExactPutUvarint

namespace Go.Proofs.Ytbimcammjohaoaa
theorem uvHolds : Rows.FnExactPutUvarintSaid := fnExactPutUvarint.proved
#print axioms uvHolds
end Go.Proofs.Ytbimcammjohaoaa
