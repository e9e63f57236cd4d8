import Derived.Test.YtbimcammjohaoadNrT
namespace Go.Proofs.Ytbimcammjohaoad.fnExactNewReplica
open Go.ChangeShapes Go.WideShapes Go.ChangeAt Go.RowKit
open Go.ChangeMaps (open_string shut_string)
set_option linter.unusedVariables false

def B5 (W : World) (b : Nat) (v0 v1 v2 v3 v4 : Value) : Prop := W.cell? ⟨b, 0, none⟩ = some v0 ∧ W.cell? ⟨b, 1, none⟩ = some v1 ∧ W.cell? ⟨b, 2, none⟩ = some v2 ∧ W.cell? ⟨b, 3, none⟩ = some v3 ∧ W.cell? ⟨b, 4, none⟩ = some v4
theorem B5.below {W W' : World} {B b : Nat} {v0 v1 v2 v3 v4 : Value} (h : B5 W b v0 v1 v2 v3 v4) (hb : Below B W W') (hB : b < B) : B5 W' b v0 v1 v2 v3 v4 :=
  ⟨(hb.cell (p := ⟨b, 0, none⟩) hB).trans h.1, (hb.cell (p := ⟨b, 1, none⟩) hB).trans h.2.1, (hb.cell (p := ⟨b, 2, none⟩) hB).trans h.2.2.1, (hb.cell (p := ⟨b, 3, none⟩) hB).trans h.2.2.2.1, (hb.cell (p := ⟨b, 4, none⟩) hB).trans h.2.2.2.2⟩
theorem B5.new (w : World) (v0 v1 v2 v3 v4 : Value) (t : TypeId) : B5 (w.alloc (.cells #[v0, v1, v2, v3, v4] t)) w.heap.size v0 v1 v2 v3 v4 := by simp [B5]
theorem B5.lt {W : World} {b : Nat} {v0 v1 v2 v3 v4 : Value} (h : B5 W b v0 v1 v2 v3 v4) : b < W.heap.size := by
  rcases Nat.lt_or_ge b W.heap.size with h1 | h1
  · exact h1
  · have := h.1; simp [World.cell?, Array.getElem?_eq_none h1] at this

set_option maxRecDepth 100000 in
set_option maxHeartbeats 1000000 in
theorem walk0 (x : Int) (h0 : -9223372036854775808 ≤ x) (h1 : x ≤ 9223372036854775807) (w : World) :
    Calls Try.prog 3 #[.int .i64 x] w fun e w' => e = .returned (.bool true) ∧ Below w.heap.size w w' := by
  have HS := hid (fun w' => specC x w' h0 h1)
  have HI := hid (fun w' => implC x w' h0 h1)
  obtain ⟨o, ho⟩ : ∃ o, okR x = o := ⟨_, rfl⟩
  obtain ⟨y, hy⟩ : ∃ y, idR x = y := ⟨_, rfl⟩
  rw [ho, hy] at HS HI
  clear ho hy
  have hoo : (o != o) = false := by simp
  go_enter Try.func3, Try.ntmps3
  go_wp2_with fail
  refine (HS.out _).mono ?_
  rintro e w1 ⟨⟨v1, rfl, m1⟩, b1⟩
  have M1 := hid m1
  obtain ⟨p1, p2, p3, p4, c1, c2, c3, c4, rfl⟩ := m1
  obtain ⟨W1, hW1⟩ : ∃ W1, w1.alloc (.cells #[.int .i64 y, .slice p1 0 c1, .slice p2 0 c2, .slice p3 0 c3, .slice p4 0 c4] 29) = W1 := ⟨_, rfl⟩
  have X1 : Hid (B5 W1 w1.heap.size (.int .i64 y) (.slice p1 0 c1) (.slice p2 0 c2) (.slice p3 0 c3) (.slice p4 0 c4)) := by rw [← hW1]; exact hid (B5.new _ _ _ _ _ _ _)
  have bb : Below w1.heap.size w1 W1 := by rw [← hW1]; exact (Below.refl _ _).alloc (Nat.le_refl _) _
  have B1 := hid (keepN b1 bb)
  clear bb b1
  go_wp2_with fail
  try rw [hW1]
  clear hW1
  refine (HI.out _).mono ?_
  rintro e w2 ⟨⟨v2, rfl, m2⟩, b2⟩
  have M2 := hid m2
  obtain ⟨q1, q2, q3, q4, d1, d2, d3, d4, rfl⟩ := m2
  obtain ⟨W2, hW2⟩ : ∃ W2, w2.alloc (.cells #[.int .i64 y, .slice q1 0 d1, .slice q2 0 d2, .slice q3 0 d3, .slice q4 0 d4] 29) = W2 := ⟨_, rfl⟩
  have X2 : Hid (B5 W2 w2.heap.size (.int .i64 y) (.slice q1 0 d1) (.slice q2 0 d2) (.slice q3 0 d3) (.slice q4 0 d4)) := by rw [← hW2]; exact hid (B5.new _ _ _ _ _ _ _)
  have bb : Below w2.heap.size w2 W2 := by rw [← hW2]; exact (Below.refl _ _).alloc (Nat.le_refl _) _
  have b2' := keepN b2 bb
  have X12 := hid (X1.out.below b2' X1.out.lt)
  have B2 := hid (keepN B1.out b2')
  clear bb b2 b2' X1
  obtain ⟨x0, x1, x2, x3, x4⟩ := X2.out
  obtain ⟨y0, y1, y2, y3, y4⟩ := X12.out
  go_wp2_with fail
  try rw [hW2]
  clear hW2
  refine (eqRep0 y _ _ M2.out M1.out _).mono ?_
  rintro e w3 ⟨rfl, b3⟩
  have X23 := hid (X2.out.below b3 X2.out.lt)
  have X13 := hid (X12.out.below b3 X12.out.lt)
  have B3 := hid (keepN B2.out b3)
  clear b3 x0 x1 x2 x3 x4 y0 y1 y2 y3 y4 X2 X12 B1 B2
  obtain ⟨x0, x1, x2, x3, x4⟩ := X23.out
  go_wp2_with fail
  refine (markRep0 y _ M2.out _).mono ?_
  rintro e w4 ⟨rfl, b4⟩
  have X24 := hid (X23.out.below b4 X23.out.lt)
  have X14 := hid (X13.out.below b4 X13.out.lt)
  have B4 := hid (keepN B3.out b4)
  clear b4 x0 x1 x2 x3 x4 X23 X13 B3
  obtain ⟨x0, x1, x2, x3, x4⟩ := X24.out
  go_wp2_with fail
  refine (heldRep0 y _ M2.out _).mono ?_
  rintro e w5 ⟨rfl, b5⟩
  have X15 := hid (X14.out.below b5 X14.out.lt)
  have B5' := hid (keepN B4.out b5)
  clear b5 x0 x1 x2 x3 x4 X24 X14 B4
  go_wp2_with fail
  refine (HI.out _).mono ?_
  rintro e w6 ⟨⟨v6, rfl, m6⟩, b6⟩
  have M6 := hid m6
  obtain ⟨r1, r2, r3, r4, e1, e2, e3, e4, rfl⟩ := m6
  obtain ⟨W6, hW6⟩ : ∃ W6, w6.alloc (.cells #[.int .i64 y, .slice r1 0 e1, .slice r2 0 e2, .slice r3 0 e3, .slice r4 0 e4] 29) = W6 := ⟨_, rfl⟩
  have X6 : Hid (B5 W6 w6.heap.size (.int .i64 y) (.slice r1 0 e1) (.slice r2 0 e2) (.slice r3 0 e3) (.slice r4 0 e4)) := by rw [← hW6]; exact hid (B5.new _ _ _ _ _ _ _)
  have bb : Below w6.heap.size w6 W6 := by rw [← hW6]; exact (Below.refl _ _).alloc (Nat.le_refl _) _
  have b6' := keepN b6 bb
  have X16 := hid (X15.out.below b6' X15.out.lt)
  have B6 := hid (keepN B5'.out b6')
  clear bb b6 b6' X15 B5'
  obtain ⟨x0, x1, x2, x3, x4⟩ := X6.out
  obtain ⟨y0, y1, y2, y3, y4⟩ := X16.out
  go_wp2_with fail
  try rw [hW6]
  clear hW6
  refine (eqRep0 y _ _ M6.out M1.out _).mono ?_
  rintro e w7 ⟨rfl, b7⟩
  have B7 := hid (keepN B6.out b7)
  clear b7 x0 x1 x2 x3 x4 y0 y1 y2 y3 y4 X6 X16 B6
  go_wp2_with fail
  go_ret
  exact ⟨rfl, B7.out⟩

theorem walk (a0 : Int) (w0 : (Lit.int .i64 a0).wf = true) (w : World) :
    Calls Try.prog 3 #[.int .i64 a0] w fun e w' => e = .returned (.bool true) ∧ Below w.heap.size w w' := by
  have b := bounds_i64 w0
  exact walk0 a0 b.1 (by omega) w

set_option maxRecDepth 100000 in
theorem lifted (os : Os) (started : os.Started) (H : Type) (enc : TypeId × Value → H) :
    ReturnsInHanded {} Try.checked os 3 .any (Rows.fnExactNewReplicaSpec.pre6 enc Try.prog Try.f3 Rows.fnExactNewReplicaRow.domain false) (Rows.fnExactNewReplicaSpec.post enc Try.prog Try.f3 false true false false) := by
  refine returnsInHanded_of_change (C := Try.checked) own started (by kernel_rfl) Try.func3
    (ChangeSpec.witness6 (enc := enc) (C := Try.checked) false ⟨#[], #[.int .i64 0], []⟩ 8 (by kernel_rfl) (by kernel_rfl) (by kernel_rfl) (by kernel_rfl)) ?_
  intro W base args ds gs before hval0 hW hcnd _
  have hval : ∀ (j : Nat) t v, Try.f3.params[j]? = some t → args[j]? = some v → Value.okWide Try.prog W .any base t v := hval0
  have hW' := hW
  obtain ⟨p, q, hA0, hV, rfl, hfz, hnd⟩ := hW
  have hA : DataW.TrodAll enc Try.prog W 0 (fun _ => true) true Try.f3.params.toList args.toList ds p := hA0
  rw [Try.params3] at hA hval
  obtain ⟨v0, vs0, d0, ds0, p0, q0, hargs, rfl, rfl, h0, r0⟩ := trodAll_cons hA
  obtain ⟨rfl, rfl, rfl⟩ := trodAll_nil r0
  obtain rfl : args = #[v0] := by cases args; simp_all
  obtain ⟨rfl, rfl⟩ := trodVars_none hV
  obtain ⟨a0, rfl, rfl, rfl, w0⟩ := open_int Try.underlying3 (hval 0 3 v0 rfl rfl) h0
  clear hA0 hval0
  refine (walk a0 w0 W).mono fun e W' ⟨he, bel⟩ => ?_
  subst he
  exact ⟨_, rfl, _, _, _, [], _, [], hW', (trodAll_cons_mk (shut_bool Try.underlying4 _) trodAll_mk0), (trodAll_cons_mk (shut_int Try.underlying3 w0) trodAll_mk0), rfl, bel.frame _, fun h => by cases h⟩

theorem over : Rows.fnExactNewReplicaRow.holds Try.pinned (OpenSpec.ofChange Rows.fnExactNewReplicaSpec) :=
  OpenClaim.holds_of_wide 3 Try.f3 rfl rfl rfl rfl rfl rfl rfl ⟨rfl, rfl, rfl, rfl, rfl⟩ rfl rfl rfl rfl rfl (by kernel_rfl) Try.func3 (by kernel_rfl)
    (of_decide_eq_true (by kernel_rfl)) (by unfold Func.isWrapper; first | (rw [if_pos (by decide +kernel)]; kernel_rfl) | (rw [if_neg (by decide +kernel)]; exact ⟨rfl, rfl⟩))
    (fun os started H enc _ => lifted os started H enc)

theorem proved : Rows.FnExactNewReplicaSaid :=
  over
end Go.Proofs.Ytbimcammjohaoad.fnExactNewReplica

namespace Go.Proofs.Ytbimcammjohaoad
theorem newReplicaHolds : Rows.FnExactNewReplicaSaid := fnExactNewReplica.proved
#print axioms newReplicaHolds
end Go.Proofs.Ytbimcammjohaoad
