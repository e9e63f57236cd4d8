import Derived.Test.YtlibjegbmoombabOpenC
namespace Go.Proofs.Ytlibjegbmoombab
open Go.ChangeShapes Go.WideShapes Go.ChangeAt Go.RowKit Go.Maps
set_option linter.unusedVariables false
set_option linter.unusedSimpArgs false

def topK (R T : Nat → Int) (rep : Int) : Nat → Int
  | 0 => 0
  | k + 1 => if R k = rep ∧ topK R T rep k < T k then T k else topK R T rep k
def lastTo (l : List (Int × Int)) : Int := match l.getLast? with | none => 0 | some p => p.2

theorem lastTo_snoc (l : List (Int × Int)) (p : Int × Int) : lastTo (l ++ [p]) = p.2 := by simp [lastTo]
theorem lastTo_nil : lastTo [] = 0 := rfl

theorem Lk_inv {R F T : Nat → Int} : ∀ k : Nat, okTo R F T k → (∀ r, Lk R F T k r ≠ [] → 0 < k ∧ r ≤ R (k - 1)) ∧ (0 < k → lastTo (Lk R F T k (R (k - 1))) = T (k - 1)) ∧ (∀ r, topK R T r k = lastTo (Lk R F T k r)) ∧ (∀ r, 0 ≤ lastTo (Lk R F T k r) ∧ lastTo (Lk R F T k r) ≤ 1000000000)
  | 0, _ => ⟨fun r h => absurd rfl h, fun h => absurd h (by omega), fun r => rfl, fun r => by simp [Lk, lastTo]⟩
  | k + 1, h => by
    have hk : okTo R F T k := fun i hi => h i (by omega)
    obtain ⟨i1, i2, i3, i4⟩ := Lk_inv k hk
    have ho := runOk_iff.1 (h k (by omega)).1
    have hap : 0 < k → (R (k - 1) < R k ∨ (R (k - 1) = R k ∧ T (k - 1) + 1 < F k)) := fun h0 => by
      have := (h k (by omega)).2 h0
      unfold apartB at this
      exact of_decide_eq_true this
    have e1 : ∀ r, Lk R F T (k + 1) r = upd (Lk R F T k) (R k) (Lk R F T k (R k) ++ [(F k, T k)]) r := fun r => rfl
    have hlt : lastTo (Lk R F T k (R k)) < T k := by
      by_cases hn : Lk R F T k (R k) = []
      · rw [hn, lastTo_nil]; omega
      · obtain ⟨h0, hle⟩ := i1 (R k) hn
        rcases hap h0 with hh | ⟨hh, h2⟩
        · omega
        · rw [← hh, i2 h0]; omega
    refine ⟨fun r hr => ?_, fun _ => ?_, fun r => ?_, fun r => ?_⟩
    · refine ⟨by omega, ?_⟩
      rw [Nat.add_sub_cancel]
      rw [e1] at hr
      by_cases e : r = R k
      · omega
      · rw [upd_other _ _ e] at hr
        obtain ⟨h0, hle⟩ := i1 r hr
        rcases hap h0 with hh | ⟨hh, _⟩ <;> omega
    · rw [Nat.add_sub_cancel, e1, upd_same, lastTo_snoc]
    · rw [e1]
      by_cases e : r = R k
      · subst e
        rw [upd_same, lastTo_snoc]
        show (if R k = R k ∧ topK R T (R k) k < T k then T k else topK R T (R k) k) = T k
        rw [if_pos ⟨rfl, by rw [i3]; exact hlt⟩]
      · rw [upd_other _ _ e, ← i3 r]
        show (if R k = r ∧ topK R T r k < T k then T k else topK R T r k) = topK R T r k
        rw [if_neg (fun hh => e hh.1.symm)]
    · rw [e1]
      by_cases e : r = R k
      · subst e; rw [upd_same, lastTo_snoc]; show 0 ≤ T k ∧ T k ≤ 1000000000; omega
      · rw [upd_other _ _ e]; exact i4 r

theorem last_cell {w : World} {B g n cap : Nat} {l : List (Int × Int)} (h : w.ownsRow B 79 2 (.slice (some ⟨g, 0, none⟩) n cap) n (spanCells l)) (hl : l.length = n) (h0 : 0 < n) :
    w.cell? ⟨g, (n - 1) * 2 + 1, none⟩ = some (.int .i64 (lastTo l)) := by
  rw [h.cellAt _ (by omega)]
  obtain ⟨l', p, rfl⟩ : ∃ l' p, l = l' ++ [p] := ⟨l.dropLast, l.getLast (by intro e; rw [e] at hl; simp at hl; omega), (List.dropLast_concat_getLast _).symm⟩
  have hlen : (spanCells l').length = l'.length * 2 := by
    clear h hl
    induction l' with
    | nil => rfl
    | cons a l ih => simp [spanCells] at *; omega
  simp at hl
  rw [lastTo_snoc, spanCells_append, List.getElem?_append_right (by rw [hlen]; omega), hlen, show (n - 1) * 2 + 1 - l'.length * 2 = 1 from by omega]
  rfl

set_option maxRecDepth 100000 in
set_option maxHeartbeats 400000 in
theorem greatest {w : World} {bm n : Nat} {D : DataW Value} {G : Int → Value} {L : Int → List (Int × Int)} (h : GrpAt w bm n D G L) (r : Int) (hr : (Lit.int .i64 r).wf = true) (hl : (L r).length ≤ 1000000) :
    Calls Try.prog 46 #[.map (some bm), .int .i64 r] w fun e w' => e = .returned (.int .i64 (lastTo (L r))) ∧ w' = w := by
  have hlk := h.look r hr
  have hrow := h.rows r
  rcases hrow.2 with ⟨e, e0⟩ | ⟨g, cap, cur, e, hb, hg, hnc, hcm, hcs, htake⟩
  · have hnil : L r = [] := List.eq_nil_of_length_eq_zero e0
    have HE : Hid (lastTo (L r) = 0) := by rw [hnil]; rfl
    rw [e] at hlk
    clear hrow e e0 h hnil
    go_enter Try.func46, Try.ntmps46
    go_wp2_with fail
    go_ret
    exact ⟨ret_int HE.out.symm, rfl⟩
  · rw [e] at hlk hrow
    unfold maxLen at hcm
    by_cases h0 : (L r).length = 0
    · have hnil : L r = [] := List.eq_nil_of_length_eq_zero h0
      have HE : Hid (lastTo (L r) = 0) := by rw [hnil]; rfl
      rw [h0] at hlk
      clear hrow e h hnil hcs htake hg hb hnc hcm
      go_enter Try.func46, Try.ntmps46
      go_wp2_with fail
      go_ret
      exact ⟨ret_int HE.out.symm, rfl⟩
    · have hc := last_cell hrow rfl (by omega)
      generalize hlen : (L r).length = m at *
      have HL := hid hlen
      have e1 : ((m : Int) - 1).toNat = m - 1 := by omega
      have e2 : (1 : Int) ≤ (m : Int) := by omega
      have e3 : ((m : Int) == 0) = false := by simp; omega
      clear hrow e h hcs htake hg hb hlen h0
      go_enter Try.func46, Try.ntmps46
      go_wp2_with fail
      go_ret
      exact ⟨rfl, rfl⟩

set_option maxRecDepth 100000 in
set_option maxHeartbeats 400000 in
theorem openC_no (a : Option Addr) (n c : Nat) (R F T : Nat → Int) (w : World) (hn : n ≤ 1048576) (h : RSeg w a n R F T) (hok : ctxB R F T n = false) :
    Calls Try.prog 33 #[.agg #[.slice a n c]] w fun e w' => e = .returned (.tuple #[.map none, .bool false]) ∧ Below w.heap.size w w' := by
  have B0 : Below w.heap.size w (w.alloc (.cells #[.slice a n c] 29)) := (Below.refl _ _).alloc (Nat.le_refl _) _
  go_enter Try.func33, Try.ntmps33
  go_wp2_with fail
  refine (implOk a n c R F T _ hn (h.below B0)).mono ?_
  rintro e w1 ⟨rfl, b1⟩
  rw [hok]
  have HB := hid (keepS B0 b1)
  clear b1 B0 hok h
  go_wp2_with fail
  go_ret2
  exact ⟨rfl, HB.out⟩
end Go.Proofs.Ytlibjegbmoombab
