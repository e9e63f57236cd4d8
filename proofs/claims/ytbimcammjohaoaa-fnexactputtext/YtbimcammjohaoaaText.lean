import Derived.Test.YtbimcammjohaoaaRows
import Derived.Test.YtbimcammjohaoaaByt
import Derived.Test.YtbimcammjohaoaaWu
import Derived.Test.YtbimcammjohaoaaWv
import Derived.Test.YtbimcammjohaoaaWt
import Derived.WalkKit
import Derived.ProofKit
import Derived.OpenShut
import Derived.ShutString
import Derived.Below
namespace Go.Proofs.Ytbimcammjohaoaa.fnExactPutText
open Go.ChangeShapes Go.WideShapes Go.ChangeAt Go.RowKit
open Go.ChangeMaps (open_string shut_string)
set_option linter.unusedVariables false

theorem own : ownKnob Try.prog.godebug = none := by kernel_rfl

set_option maxRecDepth 100000 in
set_option maxHeartbeats 400000 in
theorem walk (a0 : ByteArray) (w0 : a0.size ≤ maxLen) (w : World) :
    Calls Try.prog 6 #[.string a0] w fun e w' => e = .returned (.bool true) ∧ Below w.heap.size w w' := by
  unfold maxLen at w0
  by_cases hs : a0.size ≤ 1048576
  · have hlen := uvF_len 9 a0.size
    have hl : (textInts a0).length = (uvF 9 a0.size).length + a0.size := by unfold textInts; rw [List.length_append, strInts_length]
    have hlo : (textInts a0).length ≤ 1048576 + 10 := by omega
    have hne : textInts a0 ≠ [] := by intro e; rw [e] at hl; simp at hl; omega
    have HBy := hid (bytesOf (zs := textInts a0) (fun z hz => by
      unfold textInts at hz
      rcases List.mem_append.1 hz with h | h
      · exact uvF_byte 9 _ (by omega) z h
      · exact strInts_byte _ z h))
    clear hl hlen
    go_enter Try.func6, Try.ntmps6
    go_wp2_with fail
    refine (specText a0 _ hs).mono ?_
    rintro e w1 ⟨v1, rfl, o1, b1, z1⟩
    obtain ⟨g1, c1, rfl, hg1, hg1', hn1, hm1, _, s1⟩ := o1.shape hne
    go_wp2_with fail
    refine (implText a0 _ hs).mono ?_
    rintro e w2 ⟨v2, rfl, o2, b2, z2⟩
    obtain ⟨g2, c2, rfl, hg2, hg2', hn2, hm2, _, s2⟩ := o2.shape hne
    go_wp2_with fail
    refine (eqByteS _ _ _ _ _ _ _ (by omega) HBy.out s2 (s1.below b2)).mono ?_
    rintro e w3 ⟨rfl, b3⟩
    have y2 := b2.size
    have y3 := b3.size
    have o3 : Own w3 w1.heap.size _ _ := o2.kept b3 (fun k hk => by simp [Value.ownBlock] at hk; omega)
    have s13 := (s1.below b2).below b3
    go_wp2_with fail
    refine (markB w1.heap.size g2 (textInts a0).length c2 1 _ _ (by omega) (by omega) o3).mono ?_
    rintro e w4 ⟨rfl, b4, z4, s4, hoth⟩
    have s14 := s13.kept b4 (by omega) (fun x hx => by simp at hx; subst hx; exact hg1')
    go_wp2_with fail
    refine (heldB _ _ _ 1 _ (by omega) (by omega) s4).mono ?_
    rintro e w4' ⟨rfl, rfl⟩
    go_wp2_with fail
    refine (implText a0 _ hs).mono ?_
    rintro e w5 ⟨v5, rfl, o5, b5, z5⟩
    obtain ⟨g5, c5, rfl, hg5, hg5', hn5, hm5, _, s5⟩ := o5.shape hne
    go_wp2_with fail
    refine (eqByteS _ _ _ _ _ _ _ (by omega) HBy.out s5 (s14.below b5)).mono ?_
    rintro e w6 ⟨rfl, b6⟩
    have y4 := b4.size
    have y5 := b5.size
    go_wp2_with fail
    go_ret
    exact ⟨rfl, ((((b1.trans (b2.mono (by omega))).trans (b3.mono (by omega))).trans (b4.mono (by omega))).trans (b5.mono (by omega))).trans (b6.mono (by omega))⟩
  · go_enter Try.func6, Try.ntmps6
    go_wp2_with fail
    go_ret
    exact ⟨rfl, Below.refl _ _⟩

set_option maxRecDepth 100000 in
theorem lifted (os : Os) (started : os.Started) (H : Type) (enc : TypeId × Value → H) :
    ReturnsInHanded {} Try.checked os 6 .any (Rows.fnExactPutTextSpec.pre6 enc Try.prog Try.f6 Rows.fnExactPutTextRow.domain false) (Rows.fnExactPutTextSpec.post enc Try.prog Try.f6 false true false false) := by
  refine returnsInHanded_of_change (C := Try.checked) own started (by kernel_rfl) Try.func6
    (ChangeSpec.witness6 (enc := enc) (C := Try.checked) false ⟨#[], #[.string ByteArray.empty], []⟩ 8 (by kernel_rfl) (by kernel_rfl) (by kernel_rfl) (by kernel_rfl)) ?_
  intro W base args ds gs before hval0 hW hcnd _
  have hval : ∀ (j : Nat) t v, Try.f6.params[j]? = some t → args[j]? = some v → Value.okWide Try.prog W .any base t v := hval0
  have hW' := hW
  obtain ⟨p, q, hA0, hV, rfl, hfz, hnd⟩ := hW
  have hA : DataW.TrodAll enc Try.prog W 0 (fun _ => true) true Try.f6.params.toList args.toList ds p := hA0
  rw [Try.params6] at hA hval
  obtain ⟨v0, vs0, d0, ds0, p0, q0, hargs, rfl, rfl, h0, r0⟩ := trodAll_cons hA
  obtain ⟨rfl, rfl, rfl⟩ := trodAll_nil r0
  obtain rfl : args = #[v0] := by cases args; simp_all
  obtain ⟨rfl, rfl⟩ := trodVars_none hV
  obtain ⟨a0, rfl, rfl, rfl, w0⟩ := open_string Try.underlying9 (hval 0 9 v0 rfl rfl) h0
  clear hA0 hval0
  refine (walk a0 w0 W).mono fun e W' ⟨he, bel⟩ => ?_
  subst he
  exact ⟨_, rfl, _, _, _, [], _, [], hW', (trodAll_cons_mk (shut_bool Try.underlying4 _) trodAll_mk0), (trodAll_cons_mk (shut_string Try.underlying9 w0) trodAll_mk0), rfl, bel.frame _, fun h => by cases h⟩

theorem over : Rows.fnExactPutTextRow.holds Try.pinned (OpenSpec.ofChange Rows.fnExactPutTextSpec) :=
  OpenClaim.holds_of_wide 6 Try.f6 rfl rfl rfl rfl rfl rfl rfl ⟨rfl, rfl, rfl, rfl, rfl⟩ rfl rfl rfl rfl rfl (by kernel_rfl) Try.func6 (by kernel_rfl)
    (of_decide_eq_true (by kernel_rfl)) (by unfold Func.isWrapper; first | (rw [if_pos (by decide +kernel)]; kernel_rfl) | (rw [if_neg (by decide +kernel)]; exact ⟨rfl, rfl⟩))
    (fun os started H enc _ => lifted os started H enc)

theorem proved : Rows.FnExactPutTextSaid :=
  over
end Go.Proofs.Ytbimcammjohaoaa.fnExactPutText

namespace Go.Proofs.Ytbimcammjohaoaa
theorem textHolds : Rows.FnExactPutTextSaid := fnExactPutText.proved
#print axioms textHolds
end Go.Proofs.Ytbimcammjohaoaa
