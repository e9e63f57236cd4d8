import Derived.Test.YtkhicohhahaahaaOpenC
namespace Go.Proofs.Ytkhicohhahaahaa
open Go.ChangeShapes Go.WideShapes Go.ChangeAt Go.RowKit Go.Maps
set_option linter.unusedVariables false
set_option linter.unusedSimpArgs false

def topK (R T : Nat → Int) (rep : Int) : Nat → Int
  | 0 => 0
  | k + 1 => if R k = rep ∧ topK R T rep k < T k then T k else topK R T rep k
def lastTo (l : List (Int × Int)) : Int := match l.getLast? with | none => 0 | some p => p.2

theorem lastTo_snoc (l : List (Int × Int)) (p : Int × Int) : lastTo (l ++ [p]) = p.2 := by simp [lastTo]
theorem lastTo_nil : lastTo [] = 0 := rfl

theorem Lk_inv {R F T : Nat → Int} : ∀ k : Nat, okTo R F T k → (∀ r, Lk R F T k r ≠ [] → 0 < k ∧ r ≤ R (k - 1)) ∧ (0 < k → lastTo (Lk R F T k (R (k - 1))) = T (k - 1)) ∧ (∀ r, topK R T r k = lastTo (Lk R F T k r)) ∧ (∀ r, 0 ≤ lastTo (Lk R F T k r) ∧ lastTo (Lk R F T k r) ≤ 1000000000)
  | 0, _ => ⟨fun r h => absurd rfl h, fun h => absurd h (by omega), fun r => rfl, fun r => by simp [Lk, lastTo]⟩
  | k + 1, h => by
    have hk : okTo R F T k := fun i hi => h i (by omega)
    obtain ⟨i1, i2, i3, i4⟩ := Lk_inv k hk
    have ho := runOk_iff.1 (h k (by omega)).1
    have hap : 0 < k → (R (k - 1) < R k ∨ (R (k - 1) = R k ∧ T (k - 1) + 1 < F k)) := fun h0 => by
      have := (h k (by omega)).2 h0
      unfold apartB at this
      exact of_decide_eq_true this
    have e1 : ∀ r, Lk R F T (k + 1) r = upd (Lk R F T k) (R k) (Lk R F T k (R k) ++ [(F k, T k)]) r := fun r => rfl
    have hlt : lastTo (Lk R F T k (R k)) < T k := by
      by_cases hn : Lk R F T k (R k) = []
      · rw [hn, lastTo_nil]; omega
      · obtain ⟨h0, hle⟩ := i1 (R k) hn
        rcases hap h0 with hh | ⟨hh, h2⟩
        · omega
        · rw [← hh, i2 h0]; omega
    refine ⟨fun r hr => ?_, fun _ => ?_, fun r => ?_, fun r => ?_⟩
    · refine ⟨by omega, ?_⟩
      rw [Nat.add_sub_cancel]
      rw [e1] at hr
      by_cases e : r = R k
      · omega
      · rw [upd_other _ _ e] at hr
        obtain ⟨h0, hle⟩ := i1 r hr
        rcases hap h0 with hh | ⟨hh, _⟩ <;> omega
    · rw [Nat.add_sub_cancel, e1, upd_same, lastTo_snoc]
    · rw [e1]
      by_cases e : r = R k
      · subst e
        rw [upd_same, lastTo_snoc]
        show (if R k = R k ∧ topK R T (R k) k < T k then T k else topK R T (R k) k) = T k
        rw [if_pos ⟨rfl, by rw [i3]; exact hlt⟩]
      · rw [upd_other _ _ e, ← i3 r]
        show (if R k = r ∧ topK R T r k < T k then T k else topK R T r k) = topK R T r k
        rw [if_neg (fun hh => e hh.1.symm)]
    · rw [e1]
      by_cases e : r = R k
      · subst e; rw [upd_same, lastTo_snoc]; show 0 ≤ T k ∧ T k ≤ 1000000000; omega
      · rw [upd_other _ _ e]; exact i4 r

def Srt (l : List (Int × Int)) : Prop := l.Pairwise (fun p q => p.2 + 1 < q.1) ∧ ∀ p ∈ l, 1 ≤ p.1 ∧ p.1 ≤ p.2 ∧ p.2 ≤ 1000000000

theorem Lk_srt {R F T : Nat → Int} : ∀ k : Nat, okTo R F T k → ∀ r, Srt (Lk R F T k r) ∧ ∀ p ∈ Lk R F T k r, p.2 ≤ lastTo (Lk R F T k r)
  | 0, _ => fun r => ⟨⟨List.Pairwise.nil, fun p hp => by cases hp⟩, fun p hp => by cases hp⟩
  | k + 1, h => by
    have hk : okTo R F T k := fun i hi => h i (by omega)
    have ih := Lk_srt k hk
    obtain ⟨i1, i2, i3, i4⟩ := Lk_inv k hk
    have ho := runOk_iff.1 (h k (by omega)).1
    have hap : 0 < k → (R (k - 1) < R k ∨ (R (k - 1) = R k ∧ T (k - 1) + 1 < F k)) := fun h0 => by
      have := (h k (by omega)).2 h0
      unfold apartB at this
      exact of_decide_eq_true this
    intro r
    show Srt (upd (Lk R F T k) (R k) (Lk R F T k (R k) ++ [(F k, T k)]) r) ∧ ∀ p ∈ upd (Lk R F T k) (R k) (Lk R F T k (R k) ++ [(F k, T k)]) r, p.2 ≤ lastTo (upd (Lk R F T k) (R k) (Lk R F T k (R k) ++ [(F k, T k)]) r)
    by_cases e : r = R k
    · subst e
      rw [upd_same]
      obtain ⟨⟨p1, p2⟩, p3⟩ := ih (R k)
      have hlt : ∀ p ∈ Lk R F T k (R k), p.2 + 1 < F k := by
        intro p hp
        obtain ⟨h0, hle⟩ := i1 (R k) (List.ne_nil_of_mem hp)
        have := p3 p hp
        rcases hap h0 with hh | ⟨hh, h2⟩
        · omega
        · rw [← hh, i2 h0] at this; omega
      refine ⟨⟨List.pairwise_append.2 ⟨p1, List.pairwise_singleton _ _, fun p hp q hq => ?_⟩, fun p hp => ?_⟩, fun p hp => ?_⟩
      · rw [List.mem_singleton] at hq; subst hq; exact hlt p hp
      · rcases List.mem_append.1 hp with hp | hp
        · exact p2 p hp
        · rw [List.mem_singleton] at hp; subst hp; exact ⟨by omega, by omega, by omega⟩
      · rw [lastTo_snoc]
        rcases List.mem_append.1 hp with hp | hp
        · have := hlt p hp; show p.2 ≤ T k; omega
        · rw [List.mem_singleton] at hp; subst hp; exact Int.le_refl _
    · rw [upd_other _ _ e]; exact ih r

def SS (w : World) (a : Option Addr) (n : Nat) (f t : Nat → Int) : Prop :=
  n = 0 ∨ ∃ b off, a = some ⟨b, off, none⟩ ∧ b < w.heap.size ∧ ∀ i, i < n → w.cell? ⟨b, off + i * 2, none⟩ = some (.int .i64 (f i)) ∧ w.cell? ⟨b, off + i * 2 + 1, none⟩ = some (.int .i64 (t i))

theorem ss_own {w : World} {B n cap g : Nat} {l : List (Int × Int)} (h : w.ownsRow B 125 2 (.slice (some ⟨g, 0, none⟩) n cap) n (spanCells l)) (hl : l.length = n) :
    SS w (some ⟨g, 0, none⟩) n (fun i => (l.getD i (0, 0)).1) (fun i => (l.getD i (0, 0)).2) := by
  refine .inr ⟨g, 0, rfl, (h.lt g rfl).2, fun i hi => ?_⟩
  have key : ∀ (l : List (Int × Int)) (i : Nat), i < l.length → (spanCells l)[i * 2]? = some (.int .i64 (l.getD i (0, 0)).1) ∧ (spanCells l)[i * 2 + 1]? = some (.int .i64 (l.getD i (0, 0)).2) := by
    intro l
    induction l with
    | nil => intro i hi; simp at hi
    | cons a l ih =>
      intro i hi
      cases i with
      | zero => simp [spanCells]
      | succ i =>
        have := ih i (by simpa using hi)
        have e : spanCells (a :: l) = .int .i64 a.1 :: .int .i64 a.2 :: spanCells l := by simp [spanCells]
        rw [e, show (i + 1) * 2 = i * 2 + 1 + 1 from by omega]
        simpa using this
  rw [Nat.zero_add, h.cellAt _ (by omega), h.cellAt _ (by omega)]
  exact key l i (by omega)

theorem srt_get {l : List (Int × Int)} (h : Srt l) {i j : Nat} (hij : i < j) (hj : j < l.length) : (l.getD i (0, 0)).2 + 1 < (l.getD j (0, 0)).1 ∧ (l.getD i (0, 0)).1 ≤ (l.getD i (0, 0)).2 ∧ (l.getD j (0, 0)).1 ≤ (l.getD j (0, 0)).2 := by
  have e1 : l.getD i (0, 0) = l[i] := by simp [List.getD, show i < l.length by omega]
  have e2 : l.getD j (0, 0) = l[j] := by simp [List.getD, hj]
  rw [e1, e2]
  exact ⟨List.pairwise_iff_getElem.1 h.1 i j (by omega) hj hij, (h.2 _ (List.getElem_mem _)).2.1, (h.2 _ (List.getElem_mem _)).2.1⟩

set_option maxRecDepth 100000 in
set_option maxHeartbeats 400000 in
theorem openC_no (a : Option Addr) (n c : Nat) (R F T : Nat → Int) (w : World) (hn : n ≤ 1048576) (h : RSeg w a n R F T) (hok : ctxB R F T n = false) :
    Calls Try.prog 54 #[.agg #[.slice a n c]] w fun e w' => e = .returned (.tuple #[.map none, .bool false]) ∧ Below w.heap.size w w' := by
  have B0 : Below w.heap.size w (w.alloc (.cells #[.slice a n c] 36)) := (Below.refl _ _).alloc (Nat.le_refl _) _
  go_enter Try.func54, Try.ntmps54
  go_wp2_with fail
  refine (implOk a n c R F T _ hn (h.below B0)).mono ?_
  rintro e w1 ⟨rfl, b1⟩
  rw [hok]
  have HB := hid (keepS B0 b1)
  clear b1 B0 hok h
  go_wp2_with fail
  go_ret2
  exact ⟨rfl, HB.out⟩
end Go.Proofs.Ytkhicohhahaahaa
