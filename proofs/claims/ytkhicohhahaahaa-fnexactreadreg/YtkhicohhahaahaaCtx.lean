import Derived.Test.YtkhicohhahaahaaRun
namespace Go.Proofs.Ytkhicohhahaahaa
open Go.ChangeShapes Go.WideShapes Go.ChangeAt Go.RowKit
set_option linter.unusedVariables false

set_option maxHeartbeats 400000 in
theorem specRunOk (r f t : Int) (w : World) :
    Calls Try.prog 50 #[.agg #[.int .i64 r, .int .i64 f, .int .i64 t]] w fun e w' => e = .returned (.bool (runOkB r f t)) ∧ Below w.heap.size w w' := by
  by_cases h1 : 0 ≤ r
  · by_cases h2 : r < 8
    · by_cases h3 : 1 ≤ f
      · by_cases h4 : f ≤ t
        · by_cases h5 : t ≤ 1000000000
          · have HE := hid (runOk_true ⟨h1, h2, h3, h4, h5⟩)
            go_enter Try.func50, Try.ntmps50
            go_wp2_with fail
            go_ret
            exact ⟨retB HE.out.symm, (Below.refl _ _).alloc (Nat.le_refl _) _⟩
          · have HE := hid (runOk_false (r := r) (f := f) (t := t) (by omega))
            go_enter Try.func50, Try.ntmps50
            go_wp2_with fail
            go_ret
            exact ⟨retB HE.out.symm, (Below.refl _ _).alloc (Nat.le_refl _) _⟩
        · have HE := hid (runOk_false (r := r) (f := f) (t := t) (by omega))
          go_enter Try.func50, Try.ntmps50
          go_wp2_with fail
          go_ret
          exact ⟨retB HE.out.symm, (Below.refl _ _).alloc (Nat.le_refl _) _⟩
      · have HE := hid (runOk_false (r := r) (f := f) (t := t) (by omega))
        go_enter Try.func50, Try.ntmps50
        go_wp2_with fail
        go_ret
        exact ⟨retB HE.out.symm, (Below.refl _ _).alloc (Nat.le_refl _) _⟩
    · have HE := hid (runOk_false (r := r) (f := f) (t := t) (by omega))
      go_enter Try.func50, Try.ntmps50
      go_wp2_with fail
      go_ret
      exact ⟨retB HE.out.symm, (Below.refl _ _).alloc (Nat.le_refl _) _⟩
  · have HE := hid (runOk_false (r := r) (f := f) (t := t) (by omega))
    go_enter Try.func50, Try.ntmps50
    go_wp2_with fail
    go_ret
    exact ⟨retB HE.out.symm, (Below.refl _ _).alloc (Nat.le_refl _) _⟩

set_option maxHeartbeats 400000 in
theorem repOk_yes (r : Int) (w : World) (h1 : 0 ≤ r) (h2 : r < 8) :
    Calls Try.prog 87 #[.int .i64 r] w fun e w' => e = .returned (.bool true) ∧ w' = w := by
  go_enter Try.func87, Try.ntmps87
  go_wp2_with fail
  go_ret
  exact ⟨rfl, rfl⟩
set_option maxHeartbeats 400000 in
theorem repOk_no (r : Int) (w : World) (h : ¬ (0 ≤ r ∧ r < 8)) :
    Calls Try.prog 87 #[.int .i64 r] w fun e w' => e = .returned (.bool false) ∧ w' = w := by
  by_cases h1 : 0 ≤ r
  · have h2 : decide (r < 8) = false := by simp; omega
    go_enter Try.func87, Try.ntmps87
    go_wp2_with fail
    go_ret
    exact ⟨rfl, rfl⟩
  · go_enter Try.func87, Try.ntmps87
    go_wp2_with fail
    go_ret
    exact ⟨rfl, rfl⟩

set_option maxHeartbeats 400000 in
theorem implRunOk (r f t : Int) (w : World) :
    Calls Try.prog 79 #[.agg #[.int .i64 r, .int .i64 f, .int .i64 t]] w fun e w' => e = .returned (.bool (runOkB r f t)) ∧ Below w.heap.size w w' := by
  by_cases h12 : 0 ≤ r ∧ r < 8
  · obtain ⟨h1, h2⟩ := h12
    have HC := hid (repOk_yes r (w.alloc (.cells #[.int .i64 r, .int .i64 f, .int .i64 t] 101)) h1 h2)
    by_cases h3 : 1 ≤ f
    · by_cases h4 : f ≤ t
      · by_cases h5 : t ≤ 1000000000
        · have HE := hid (runOk_true ⟨h1, h2, h3, h4, h5⟩)
          go_enter Try.func79, Try.ntmps79
          go_wp2_with fail
          refine HC.out.mono ?_
          rintro e w1 ⟨rfl, rfl⟩
          go_wp2_with fail
          go_ret
          exact ⟨retB HE.out.symm, (Below.refl _ _).alloc (Nat.le_refl _) _⟩
        · have h5' : decide (t ≤ 1000000000) = false := by simp; omega
          have HE := hid (runOk_false (r := r) (f := f) (t := t) (by omega))
          go_enter Try.func79, Try.ntmps79
          go_wp2_with fail
          refine HC.out.mono ?_
          rintro e w1 ⟨rfl, rfl⟩
          go_wp2_with fail
          go_ret
          exact ⟨retB HE.out.symm, (Below.refl _ _).alloc (Nat.le_refl _) _⟩
      · have HE := hid (runOk_false (r := r) (f := f) (t := t) (by omega))
        go_enter Try.func79, Try.ntmps79
        go_wp2_with fail
        refine HC.out.mono ?_
        rintro e w1 ⟨rfl, rfl⟩
        go_wp2_with fail
        go_ret
        exact ⟨retB HE.out.symm, (Below.refl _ _).alloc (Nat.le_refl _) _⟩
    · have HE := hid (runOk_false (r := r) (f := f) (t := t) (by omega))
      go_enter Try.func79, Try.ntmps79
      go_wp2_with fail
      refine HC.out.mono ?_
      rintro e w1 ⟨rfl, rfl⟩
      go_wp2_with fail
      go_ret
      exact ⟨retB HE.out.symm, (Below.refl _ _).alloc (Nat.le_refl _) _⟩
  · have HC := hid (repOk_no r (w.alloc (.cells #[.int .i64 r, .int .i64 f, .int .i64 t] 101)) h12)
    have HE := hid (runOk_false (r := r) (f := f) (t := t) (by omega))
    clear h12
    go_enter Try.func79, Try.ntmps79
    go_wp2_with fail
    refine HC.out.mono ?_
    rintro e w1 ⟨rfl, rfl⟩
    go_wp2_with fail
    go_ret
    exact ⟨retB HE.out.symm, (Below.refl _ _).alloc (Nat.le_refl _) _⟩

theorem apart_true {r t r' f' : Int} (h : r < r' ∨ (r = r' ∧ t + 1 < f')) : apartB r t r' f' = true := by unfold apartB; exact decide_eq_true h
theorem apart_false {r t r' f' : Int} (h : ¬ (r < r' ∨ (r = r' ∧ t + 1 < f'))) : apartB r t r' f' = false := by unfold apartB; exact decide_eq_false h

theorem below2 (w : World) (o o' : Obj) : Below w.heap.size w ((w.alloc o).alloc o') := ((Below.refl _ _).alloc (Nat.le_refl _) _).alloc (by simp) _

set_option maxHeartbeats 400000 in
theorem specApart (r f t r' f' t' : Int) (w : World) (h0 : 0 ≤ t) (h1 : t ≤ 1000000000) :
    Calls Try.prog 51 #[.agg #[.int .i64 r, .int .i64 f, .int .i64 t], .agg #[.int .i64 r', .int .i64 f', .int .i64 t']] w fun e w' => e = .returned (.bool (apartB r t r' f')) ∧ Below w.heap.size w w' := by
  by_cases c1 : r < r'
  · have HE := hid (apart_true (t := t) (f' := f') (.inl c1))
    go_enter Try.func51, Try.ntmps51
    go_wp2_with fail
    go_ret
    exact ⟨retB HE.out.symm, below2 _ _ _⟩
  · by_cases c2 : r = r'
    · subst c2
      by_cases c3 : t + 1 < f'
      · have HE := hid (apart_true (r := r) (r' := r) (.inr ⟨rfl, c3⟩))
        go_enter Try.func51, Try.ntmps51
        go_wp2_with fail
        go_ret
        exact ⟨retB HE.out.symm, below2 _ _ _⟩
      · have HE := hid (apart_false (r := r) (r' := r) (t := t) (f' := f') (by omega))
        go_enter Try.func51, Try.ntmps51
        go_wp2_with fail
        go_ret
        exact ⟨retB HE.out.symm, below2 _ _ _⟩
    · have c3 : (r == r') = false := by simp; exact c2
      have HE := hid (apart_false (r := r) (r' := r') (t := t) (f' := f') (by omega))
      go_enter Try.func51, Try.ntmps51
      go_wp2_with fail
      go_ret
      exact ⟨retB HE.out.symm, below2 _ _ _⟩

set_option maxHeartbeats 400000 in
theorem implFollows (r f t r' f' t' : Int) (w : World) (h0 : 0 ≤ t) (h1 : t ≤ 1000000000) :
    Calls Try.prog 80 #[.agg #[.int .i64 r', .int .i64 f', .int .i64 t'], .agg #[.int .i64 r, .int .i64 f, .int .i64 t]] w fun e w' => e = .returned (.bool (apartB r t r' f')) ∧ Below w.heap.size w w' := by
  by_cases c2 : r' = r
  · subst c2
    by_cases c3 : t + 1 < f'
    · have HE := hid (apart_true (r := r') (r' := r') (.inr ⟨rfl, c3⟩))
      go_enter Try.func80, Try.ntmps80
      go_wp2_with fail
      go_ret
      exact ⟨retB HE.out.symm, below2 _ _ _⟩
    · have HE := hid (apart_false (r := r') (r' := r') (t := t) (f' := f') (by omega))
      go_enter Try.func80, Try.ntmps80
      go_wp2_with fail
      go_ret
      exact ⟨retB HE.out.symm, below2 _ _ _⟩
  · have c3 : (r' != r) = true := by simp; exact c2
    by_cases c1 : r < r'
    · have HE := hid (apart_true (t := t) (f' := f') (.inl c1))
      go_enter Try.func80, Try.ntmps80
      go_wp2_with fail
      go_ret
      exact ⟨retB HE.out.symm, below2 _ _ _⟩
    · have HE := hid (apart_false (r := r) (r' := r') (t := t) (f' := f') (by omega))
      go_enter Try.func80, Try.ntmps80
      go_wp2_with fail
      go_ret
      exact ⟨retB HE.out.symm, below2 _ _ _⟩

set_option maxHeartbeats 400000 in
theorem eqRun (r f t : Int) (w : World) :
    Calls Try.prog 68 #[.agg #[.int .i64 r, .int .i64 f, .int .i64 t], .agg #[.int .i64 r, .int .i64 f, .int .i64 t]] w fun e w' => e = .returned (.bool true) ∧ Below w.heap.size w w' := by
  go_enter Try.func68, Try.ntmps68
  go_wp2_with fail
  go_ret
  exact ⟨rfl, below2 _ _ _⟩

def okTo (R F T : Nat → Int) (k : Nat) : Prop := ∀ i, i < k → runOkB (R i) (F i) (T i) = true ∧ (0 < i → apartB (R (i - 1)) (T (i - 1)) (R i) (F i) = true)
def okToB (R F T : Nat → Int) : Nat → Bool
  | 0 => true
  | k + 1 => okToB R F T k && (runOkB (R k) (F k) (T k) && (k == 0 || apartB (R (k - 1)) (T (k - 1)) (R k) (F k)))
def ctxB (R F T : Nat → Int) (n : Nat) : Bool := okToB R F T n && decide (n ≤ 1000)

theorem okToB_iff {R F T : Nat → Int} : ∀ k : Nat, okToB R F T k = true ↔ okTo R F T k
  | 0 => ⟨fun _ i hi => by omega, fun _ => rfl⟩
  | k + 1 => by
    have ih := okToB_iff (R := R) (F := F) (T := T) k
    constructor
    · intro h
      simp only [okToB, Bool.and_eq_true, Bool.or_eq_true, beq_iff_eq] at h
      intro i hi
      by_cases e : i = k
      · subst e; exact ⟨h.2.1, fun h0 => by rcases h.2.2 with h' | h'; omega; exact h'⟩
      · exact ih.1 h.1 i (by omega)
    · intro h
      simp only [okToB, Bool.and_eq_true, Bool.or_eq_true, beq_iff_eq]
      refine ⟨ih.2 (fun i hi => h i (by omega)), (h k (by omega)).1, ?_⟩
      by_cases h0 : k = 0
      · exact .inl h0
      · exact .inr ((h k (by omega)).2 (by omega))

theorem ctxB_iff {R F T : Nat → Int} {n : Nat} : ctxB R F T n = true ↔ okTo R F T n ∧ n ≤ 1000 := by
  unfold ctxB
  rw [Bool.and_eq_true, okToB_iff, decide_eq_true_iff]

theorem ctxB_false {R F T : Nat → Int} {n : Nat} (h : ¬ (okTo R F T n ∧ n ≤ 1000)) : ctxB R F T n = false := by
  cases e : ctxB R F T n with
  | false => rfl
  | true => exact absurd (ctxB_iff.1 e) h

theorem okTo_succ {R F T : Nat → Int} {k : Nat} (h : okTo R F T k) (h1 : runOkB (R k) (F k) (T k) = true) (h2 : 0 < k → apartB (R (k - 1)) (T (k - 1)) (R k) (F k) = true) : okTo R F T (k + 1) := by
  intro i hi
  by_cases e : i = k
  · subst e; exact ⟨h1, h2⟩
  · exact h i (by omega)

end Go.Proofs.Ytkhicohhahaahaa
